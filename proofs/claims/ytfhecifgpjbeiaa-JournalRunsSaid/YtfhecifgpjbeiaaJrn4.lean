/- The contracts of journal.Scan, Read and Add. -/
import Derived.Test.YtfhecifgpjbeiaaJrn3
import Derived.Test.YtfhecifgpjbeiaaDskRef2
namespace Go.Proofs.Ytfhecifgpjbeiaa
open Go.RowKit

theorem Try.elRecN : ElN Try.prog 22 28 5 56 (.agg #[.int .i64 0, .int .i64 0, .int .i64 0, .int .i64 0, .slice none 0 0]) := ElN.of Try.underlying22 (by kernel_rfl) rfl (by omega) (by omega)
/-- A record whose text lies outside of G, from block lo on. -/
def RecS (lo : Nat) (G : Nat → Prop) (w : World) (row : List Value) (d : RecD) : Prop := (∃ u4 : Value, row = [.int .i64 d.k, .int .i64 d.i, .int .i64 d.v, .int .i64 d.x, u4] ∧ Safe G w u4 (u8s d.t) ∧ ∀ k, u4.ownBlock = some k → lo ≤ k) ∧ d.Raw
theorem RecS.recR {lo : Nat} {G : Nat → Prop} {w : World} {row : List Value} {d : RecD} (h : RecS lo G w row d) : RecR w row d := by
  obtain ⟨⟨u, h1, h2, _⟩, h3⟩ := h
  exact ⟨⟨u, h1, h2.sl⟩, h3⟩
theorem RecS.ext {lo : Nat} {G : Nat → Prop} {w w' : World} {row : List Value} {d : RecD} (h : RecS lo G w row d) (he : Ext w w') : RecS lo G w' row d := by
  obtain ⟨⟨u, h1, h2, h4⟩, h3⟩ := h
  exact ⟨⟨u, h1, h2.ext he, h4⟩, h3⟩
theorem RecS.mono {lo lo' : Nat} {G : Nat → Prop} {w : World} {row : List Value} {d : RecD} (h : RecS lo G w row d) (hl : lo' ≤ lo) : RecS lo' G w row d := by
  obtain ⟨⟨u, h1, h2, h4⟩, h3⟩ := h
  exact ⟨⟨u, h1, h2, fun k hk => Nat.le_trans hl (h4 k hk)⟩, h3⟩
/-- An owned slice of records, whose texts lie elsewhere. -/
structure OwnJ (lo : Nat) (w : World) (v : Value) (l : List RecD) : Prop where
  ex : ∃ rows, RowN (fun k => v.ownBlock = some k) w 28 5 v rows ∧ rows.length = l.length ∧ ∀ (k : Nat) (row : List Value) (d : RecD), rows[k]? = some row → l[k]? = some d → RecS lo (fun k => v.ownBlock = some k) w row d
  new : ∀ k, v.ownBlock = some k → lo ≤ k
theorem OwnJ.ext {lo : Nat} {w w' : World} {v : Value} {l : List RecD} (h : OwnJ lo w v l) (he : Ext w w') : OwnJ lo w' v l := by
  obtain ⟨⟨rows, h1, h2, h3⟩, h4⟩ := h
  exact ⟨⟨rows, h1.ext he, h2, fun k row d hk hd => (h3 k row d hk hd).ext he⟩, h4⟩
theorem OwnJ.recs {lo : Nat} {w : World} {v : Value} {l : List RecD} (h : OwnJ lo w v l) : Recs 5 RecR w v l := by
  obtain ⟨⟨rows, h1, h2, h3⟩, h4⟩ := h
  exact h1.recs h2 fun k row d hk hd => (h3 k row d hk hd).recR
theorem OwnJ.mono {lo lo' : Nat} {w : World} {v : Value} {l : List RecD} (h : OwnJ lo w v l) (hl : lo' ≤ lo) : OwnJ lo' w v l := by
  obtain ⟨⟨rows, h1, h2, h3⟩, h4⟩ := h
  exact ⟨⟨rows, h1, h2, fun k row d hk hd => (h3 k row d hk hd).mono hl⟩, fun k hk => Nat.le_trans hl (h4 k hk)⟩
/-- Whatever turns ahead of its blocks. -/
theorem OwnJ.stab {lo : Nat} {w w' : World} {v : Value} {l : List RecD} {X : Nat → Prop} (h : OwnJ lo w v l) (hm : Mod X w w') (hX : ∀ k, X k → k < lo) : Recs 5 RecR w' v l := by
  obtain ⟨⟨rows, h1, h2, h3⟩, h4⟩ := h
  refine (h1.mod hm fun k hk hx => by have := h4 k hk; have := hX k hx; omega).recs h2 fun k row d hk hd => ?_
  obtain ⟨⟨u, g1, g2, g3⟩, g4⟩ := h3 k row d hk hd
  exact ⟨⟨u, g1, Sl.mod g2.sl hm fun j hj hx => by have := g3 j hj; have := hX j hx; omega⟩, g4⟩
theorem OwnJ.nil (lo : Nat) (w : World) : OwnJ lo w (.slice none 0 0) [] := ⟨⟨[], RowN.nil _ _ _, rfl, fun k row d h => by simp at h⟩, fun _ hk => nomatch hk⟩
theorem OwnJ.lt {lo : Nat} {w : World} {v : Value} {l : List RecD} (h : OwnJ lo w v l) {k : Nat} (hk : v.ownBlock = some k) : k < w.heap.size := by
  obtain ⟨⟨rows, h1, _⟩, _⟩ := h; exact h1.lt hk
/-- append(v, r): what is written out is a slice of one record. -/
theorem OwnJ.app {lo : Nat} {w w' : World} {v v' : Value} {l : List RecD} {rows : List (List Value)} {row : List Value} {r : RecD} (hlo : lo ≤ w.heap.size)
    (h1 : RowN (fun k => v.ownBlock = some k) w 28 5 v rows) (h2 : rows.length = l.length) (h3 : ∀ (k : Nat) (row : List Value) (d : RecD), rows[k]? = some row → l[k]? = some d → RecS lo (fun k => v.ownBlock = some k) w row d) (h4 : ∀ k, v.ownBlock = some k → lo ≤ k)
    (hr : RecS lo (fun k => v.ownBlock = some k) w row r) (hm : Mod (fun k => v.ownBlock = some k) w w') (hn : RowN (grow (fun k => v.ownBlock = some k) w w') w' 28 5 v' (rows ++ [row])) : OwnJ lo w' v' (l ++ [r]) := by
  have key : ∀ row d, RecS lo (fun k => v.ownBlock = some k) w row d → RecS lo (fun k => v'.ownBlock = some k) w' row d := fun row d ⟨⟨u, g1, g2, g5⟩, g3⟩ => by
    have g4 := g2.mod hm fun _ h => h
    refine ⟨⟨u, g1, ⟨g4.sl, fun k hk hv => ?_, g4.lt⟩, g5⟩, g3⟩
    rcases hn.inF k hv with h | h
    · exact g2.off k hk h
    · have := g2.lt k hk; omega
  refine ⟨⟨rows ++ [row], ⟨hn.own, hn.each, fun _ h => h⟩, by simp [h2], fun k row' d hk hd => ?_⟩, fun k hk => ?_⟩
  · by_cases hkl : k < rows.length
    · rw [List.getElem?_append_left hkl] at hk
      rw [List.getElem?_append_left (by omega)] at hd
      exact key _ _ (h3 k row' d hk hd)
    · rw [List.getElem?_append_right (by omega)] at hk
      rw [List.getElem?_append_right (by omega)] at hd
      have e : k - rows.length = 0 := by
        have := (List.getElem?_eq_some_iff.1 hk).1; simp at this; omega
      rw [← h2, e] at hd
      rw [e] at hk
      simp at hk hd
      subst hk hd
      exact key _ _ hr
  · rcases hn.inF k hk with h | h
    · exact h4 k h
    · omega
theorem RecN.recS {lo lo' : Nat} {w : World} {row : List Value} {d : RecD} {G : Nat → Prop} (h : RecN lo w row d) (hl : lo' ≤ lo) (hG : ∀ k, G k → k < lo) : RecS lo' G w row d := by
  obtain ⟨⟨u, h1, h2⟩, h3⟩ := h
  exact ⟨⟨u, h1, ⟨h2.1, fun k hk hg => by have := (h2.2 k hk).1; have := hG k hg; omega, fun k hk => (h2.2 k hk).2⟩, fun k hk => Nat.le_trans hl (h2.2 k hk).1⟩, h3⟩
theorem RecR.one {w : World} {row : List Value} {d : RecD} (h : RecR w row d) : row.length = 5 ∧ ∀ u ∈ row, u.oneCell' = true := by
  obtain ⟨⟨u, rfl, h2⟩, _⟩ := h
  exact ⟨rfl, rec5_one h2.one'⟩

theorem first_yes {w : World} {v : Value} {l : List Nat} {r : RecD} (hf : fst l = some r) (hl : ∀ x ∈ l, x < 256) (hlen : l.length ≤ 140737488355328) (hv : Byt w v l) :
    Calls Try.prog 28 #[v] w fun e w' => ∃ row, e = .returned (.tuple #[.agg row.toArray, .int .i64 (r.bs.length : Nat)]) ∧ Ext w w' ∧ RecN w.heap.size w' row r := by
  have := first_any hl hlen hv
  rw [hf] at this; exact this
theorem first_no {w : World} {v : Value} {l : List Nat} (hf : fst l = none) (hl : ∀ x ∈ l, x < 256) (hlen : l.length ≤ 140737488355328) (hv : Byt w v l) :
    Calls Try.prog 28 #[v] w fun e w' => ∃ row, e = .returned (.tuple #[.agg row.toArray, .int .i64 0]) ∧ Ext w w' ∧ RecN w.heap.size w' row RecD.zero := by
  have := first_any hl hlen hv
  rw [hf] at this; exact this
theorem RecS.exts {lo : Nat} {G : Nat → Prop} {w w' : World} {rows : List (List Value)} {l : List RecD} (h : ∀ (k : Nat) (row : List Value) (d : RecD), rows[k]? = some row → l[k]? = some d → RecS lo G w row d) (he : Ext w w') :
    ∀ (k : Nat) (row : List Value) (d : RecD), rows[k]? = some row → l[k]? = some d → RecS lo G w' row d := fun k row d hk hd => (h k row d hk hd).ext he

set_option maxRecDepth 100000 in
set_option maxHeartbeats 1600000 in
theorem Scan_any {w : World} {v : Value} {l : List Nat} (hl : ∀ x ∈ l, x < 256) (hlen : l.length ≤ 1000000000000) (hv : Byt w v l) :
    Calls Try.prog 9 #[v] w fun e w' => ∃ v', e = .returned (.tuple #[v', .int .i64 ((cat (recs l)).length : Nat)]) ∧ Ext w w' ∧ OwnJ w.heap.size w' v' (recs l) := by
  refine calls_keep ?_
  go_enter Try.func9, Try.ntmps9
  go_wp2
  go_loopw [4, 5] (fun vr i wr => ∃ (at0 : Nat) (done : List RecD), i = .int .i64 at0 ∧ at0 ≤ l.length ∧ Hid (at0 = (cat done).length ∧ done.length ≤ at0 ∧ recs l = done ++ recs (l.drop at0)) ∧ OwnJ w.heap.size wr vr done ∧ Ext w wr) (fun _ i _ => l.length - (intOf i).toNat)
  case atStart => exact ⟨0, [], rfl, Nat.zero_le _, hide_ (by simp [cat]), OwnJ.nil _ _, Ext.refl _⟩
  case round =>
    obtain ⟨at0, done, rfl, hat0, hinv, hR, hX⟩ := hrel
    have hat := hide_ hat0
    have hdl := hide_ (show ∀ x ∈ l.drop at0, x < 256 from fun x hx => hl x (List.mem_of_mem_drop hx))
    have hdlen := hide_ (show (l.drop at0).length ≤ 140737488355328 from by simp; omega)
    cases hf : fst (l.drop at0) with
    | none =>
      have hall := hide_ (show recs l = done from by have := hinv.out.2.2; rw [recs_none hf, List.append_nil] at this; exact this)
      have hat1 := hide_ hinv.out.1
      replace hf := hide_ hf
      clear hinv hat0
      go_wp2_with ((first
        | (refine b_from _ _ at0 rfl rfl (v := v) rfl (hv.ext hX) rfl hat.out ?_; intro vd bd)
        | (go_at_call 28; refine (first_no hf.out hdl.out hdlen.out bd).mono ?_; rintro e w2 ⟨row, rfl, hx2, hrow⟩; obtain ⟨hrl, hr1⟩ := hrow.recR.one; replace hR := hR.ext hx2; replace hX := hX.trans hx2; clear hx2 bd)
        | (refine w_alloc Try.stRec rfl rfl ?_; intro g6 w3 hg6 hx3 f6)
        | (refine w_astore Try.stRec (us := row) _ _ rfl rfl rfl rfl rfl f6 rfl hrl hr1 ?_; intro w4 hm4 f6'; replace f6 := f6'; have hx4 := hm4.after hx3 (fun i e => e ▸ hg6); replace hR := hR.ext hx4; replace hX := hX.trans hx4; clear f6' hm4 hx3 hx4 hg6)
        | fail) <;> (try simp only [Act.put, List.setIfInBounds_toArray, List.set_cons_zero, List.set_cons_succ]))
      go_ret2
      exact Keep.intro ⟨_, by rw [hall.out, hat1.out]; rfl, hX, by rw [hall.out]; exact hR⟩
    | some r =>
      obtain ⟨hrok, hpre⟩ := fst_some hf
      have hpos := r.bs_pos hrok
      have hle : r.bs.length ≤ l.length - at0 := by have := hpre.length_le; simpa using this
      have hz : ((r.bs.length : Int) == 0) = false := by rw [beq_eq_false_iff_ne]; omega
      have hinv2 := hide_ (show at0 + r.bs.length = (cat (done ++ [r])).length ∧ (done ++ [r]).length ≤ at0 + r.bs.length ∧ recs l = (done ++ [r]) ++ recs (l.drop (at0 + r.bs.length)) from by
        obtain ⟨i1, i2, i3⟩ := hinv.out
        refine ⟨by rw [cat_snoc, List.length_append, ← i1], by simp; omega, ?_⟩
        rw [i3, recs_some hf, List.drop_drop, List.append_assoc]; rfl)
      obtain ⟨⟨rows, h1, h2, h3⟩, h4⟩ := hR
      replace h3 := hide_ h3
      have hbig := hide_ (show (rows.length + [([] : List Value)].length) * 56 ≤ 140737488355328 from by have := hinv.out.2.1; simp; omega)
      have hadd := hide_ (show -9223372036854775808 ≤ ((at0 : Nat) : Int) + ((r.bs.length : Nat) : Int) ∧ ((at0 : Nat) : Int) + ((r.bs.length : Nat) : Int) ≤ 9223372036854775807 from by omega)
      replace hf := hide_ hf
      have hle2 : at0 + r.bs.length ≤ l.length := by omega
      have hpos2 : l.length - (at0 + r.bs.length) < l.length - at0 := by omega
      clear hinv hpre hle hpos hat0 hrok
      go_wp2_with ((first
        | (refine b_from _ _ at0 rfl rfl (v := v) rfl (hv.ext hX) rfl hat.out ?_; intro vd bd)
        | (go_at_call 28; refine (first_yes hf.out hdl.out hdlen.out bd).mono ?_; rintro e w2 ⟨row, rfl, hx2, hrow⟩; obtain ⟨hrl, hr1⟩ := hrow.recR.one; replace hrow := hrow.recS (G := fun k => u4.ownBlock = some k) hX.size (fun k hk => h1.lt hk); replace h1 := h1.ext hx2; replace h3 := hide_ (RecS.exts h3.out hx2); replace hX := hX.trans hx2; clear hx2 bd)
        | (refine w_alloc Try.stRec rfl rfl ?_; intro g6 w3 hg6 hx3 f6)
        | (refine w_astore Try.stRec (us := row) _ _ rfl rfl rfl rfl rfl f6 rfl hrl hr1 ?_; intro w4 hm4 f6'; replace f6 := f6'; have hx4 := hm4.after hx3 (fun i e => e ▸ hg6); replace hrow := hrow.ext hx4; replace h1 := h1.ext hx4; replace h3 := hide_ (RecS.exts h3.out hx4); replace hX := hX.trans hx4; clear f6' hm4 hx3 hx4 hg6)
        | (refine w_aload Try.stRec _ rfl rfl rfl f6 hrl ?_)
        | (refine w_nnew Try.elRecN [row] rfl rfl rfl (by intro y hy; simp at hy; subst hy; exact hrl) rfl (by omega) ?_; intro vl w5 B hB1 hB2 hx5 hn5; have hl5 := hn5.slS; replace hrow := hrow.ext hx5; replace h1 := h1.ext hx5; replace h3 := hide_ (RecS.exts h3.out hx5); replace hX := hX.trans hx5; clear f6 hn5 hB1 hB2 hx5)
        | (refine w_napp Try.elRecN _ _ rfl rfl rfl rfl h1 hl5 (by simp) (by intro y hy; simp at hy; subst hy; exact hr1) hbig.out ?_; intro v9 w6 hm6 hn6; have hJ := OwnJ.app hX.size h1 h2 h3.out h4 hrow hm6 hn6; replace hX := hm6.after hX (fun k hk => h4 k hk); clear h1 h3 hl5 hrow hm6 hn6)
        | (refine wpList_runs rfl (runs_add _ _ ((at0 + r.bs.length : Nat) : Int) (by omega) hadd.out rfl rfl rfl) ?_)
        | fail) <;> (try simp only [Act.put, List.setIfInBounds_toArray, List.set_cons_zero, List.set_cons_succ]))
      go_roundw
      case rel => exact ⟨at0 + r.bs.length, done ++ [r], rfl, hle2, hinv2, hJ, hX⟩
      case measure => simp [intOf]; omega
set_option maxRecDepth 100000 in
set_option maxHeartbeats 800000 in
theorem Read_any {F : Nat → Prop} {p : Value} {D : DSt} {w : World} (hb : ∀ x ∈ D.l, x < 256) (hd : Dsk F w p D) :
    Calls Try.prog 26 #[p] w fun e w' => ∃ v', e = .returned v' ∧ Ext w w' ∧ OwnJ w.heap.size w' v' (recs D.l) := by
  refine calls_keep ?_
  go_enter Try.func26, Try.ntmps26
  go_wp2_with ((first
    | (go_at_call 25; refine (Bytes_any hd).mono ?_; rintro e w1 ⟨v1, rfl, hX, hr1⟩; have b1 : Byt w1 v1 D.l := hr1.sl)
    | (go_at_call 9; refine (Scan_any hb (by have := hd.ok.len; omega) b1).mono ?_; rintro e w2 ⟨v2, rfl, hx2, hJ⟩; replace hJ := hJ.mono hX.size; replace hX := hX.trans hx2; clear hx2)
    | fail) <;> (try simp only [Act.put, List.setIfInBounds_toArray, List.set_cons_zero, List.set_cons_succ]))
  go_ret
  exact Keep.intro ⟨_, rfl, hX, hJ⟩

def jAdd (D : DSt) (r : RecD) : DSt := if r.Ok then D.app r.bs else D
def jAddE (D : DSt) (r : RecD) : Nat := if r.Ok then D.err r.bs else 51
set_option maxRecDepth 100000 in
set_option maxHeartbeats 800000 in
theorem JAdd_any {F : Nat → Prop} {p : Value} {D : DSt} {w : World} {row : List Value} {r : RecD} (h : RecR w row r) (hd : Dsk F w p D) :
    Calls Try.prog 17 #[p, .agg row.toArray] w fun e w' => ∃ F', e = .returned (.int .i64 (jAddE D r : Nat)) ∧ Upd F F' w w' ∧ Dsk F' w' p (jAdd D r) := by
  obtain ⟨⟨u, rfl, hu⟩, hraw⟩ := h
  replace hraw := hide_ hraw
  refine calls_keep ?_
  by_cases hok : r.Ok
  · have E1 := hide_ (show jErr r = 0 from if_pos hok)
    have E2 := hide_ (show jB r = r.bs from if_pos hok)
    have E3 := hide_ (show jAddE D r = D.err r.bs from if_pos hok)
    have E4 := hide_ (show jAdd D r = D.app r.bs from if_pos hok)
    clear hok
    go_enter Try.func17, Try.ntmps17
    go_wp2_with ((first
      | (refine w_box _ [.int .i64 r.k, .int .i64 r.i, .int .i64 r.v, .int .i64 r.x, u] rfl rfl rfl rfl ?_; intro g1 w1 hg1 hX f1)
      | (refine w_aload Try.stRec _ rfl rfl rfl f1 rfl ?_)
      | (go_at_call 11; refine (JBytes_any (RecR.made hu hraw.out hX)).mono ?_; rintro e w2 ⟨v2, rfl, o2, hx2⟩; rw [E1.out]; have b2 := o2.byt; rw [E2.out] at b2; replace hX := hX.trans hx2; clear hx2 o2 f1)
      | (go_at_call 23; refine (Append_any (hd.ext hX) b2).mono ?_; rintro e w3 ⟨F', rfl, hup, hd'⟩)
      | fail) <;> (try simp only [Act.put, List.setIfInBounds_toArray, List.set_cons_zero, List.set_cons_succ]))
    go_ret
    exact Keep.intro ⟨F', by rw [E3.out]; rfl, (Upd.ofExt hX F).trans hup, by rw [E4.out]; exact hd'⟩
  · have E1 := hide_ (show jErr r = 51 from if_neg hok)
    have E2 := hide_ (show jB r = [] from if_neg hok)
    have E3 := hide_ (show jAddE D r = 51 from if_neg hok)
    have E4 := hide_ (show jAdd D r = D from if_neg hok)
    clear hok
    go_enter Try.func17, Try.ntmps17
    go_wp2_with ((first
      | (refine w_box _ [.int .i64 r.k, .int .i64 r.i, .int .i64 r.v, .int .i64 r.x, u] rfl rfl rfl rfl ?_; intro g1 w1 hg1 hX f1)
      | (refine w_aload Try.stRec _ rfl rfl rfl f1 rfl ?_)
      | (go_at_call 11; refine (JBytes_any (RecR.made hu hraw.out hX)).mono ?_; rintro e w2 ⟨v2, rfl, o2, hx2⟩; rw [E1.out]; have b2 := o2.byt; rw [E2.out] at b2; replace hX := hX.trans hx2; clear hx2 o2 f1)
      | fail) <;> (try simp only [Act.put, List.setIfInBounds_toArray, List.set_cons_zero, List.set_cons_succ]))
    go_ret
    exact Keep.intro ⟨F, by rw [E3.out]; rfl, Upd.ofExt hX F, by rw [E4.out]; exact hd.ext hX⟩
end Go.Proofs.Ytfhecifgpjbeiaa
