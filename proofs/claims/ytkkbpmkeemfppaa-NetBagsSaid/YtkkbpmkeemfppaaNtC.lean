/- A bag: one more; what is at a place; that taken out; that once more: the contracts. -/
import Derived.Test.YtkkbpmkeemfppaaNtD
namespace Go.Proofs.Ytkkbpmkeemfppaa
open Go.RowKit

section
variable {X F : Nat → Prop} {w : World} {p c : Nat} {v : Value} {gs hs : List Nat} {l : List Int}
theorem Bi.fewC (h : Bi X F w p c v gs hs l) (hl : l.length < 4000) : (hs.map PT).toArray.size < 4000 := by have := h.len; simp; omega
theorem send_any {g : Nat} {x : Int} (h : Bi X F w p c v gs hs l) (hx : Fs w g [.int .i64 x]) (hg : ¬ F g) (hXg : X g) (hl : l.length < 4000) :
    Calls Try.prog 30 #[.pointer (some ⟨p, 0, none⟩), .pointer (some ⟨g, 0, none⟩)] w fun e w' => e = .returned (.bool true) ∧ Bi X F w' p c v gs (hs ++ [g]) (l ++ [x]) ∧ Mod (fun k => k = c) w w' := by
  obtain ⟨s, r, hb⟩ := h.ch
  refine (send_room h.f hb (h.fewC hl)).mono ?_
  rintro e w' ⟨rfl, rfl⟩
  exact ⟨rfl, h.push hx hg hXg hl, mod_setChan _ _ _ _ _ _ _ _⟩
theorem recv_empty (h : Bi X F w p c v gs [] l) :
    Calls Try.prog 34 #[.pointer (some ⟨p, 0, none⟩)] w fun e w' => e = .returned (.tuple #[.pointer none, .bool false]) ∧ Ext w w' := by
  obtain ⟨s, r, hb⟩ := h.ch
  refine (recv_none h.f hb).mono ?_
  rintro e w' ⟨rfl, rfl⟩
  exact ⟨rfl, Ext.refl _⟩
theorem recv_one {g : Nat} (h : Bi X F w p c v gs (g :: hs) l) :
    Calls Try.prog 34 #[.pointer (some ⟨p, 0, none⟩)] w fun e w' => e = .returned (.tuple #[.pointer (some ⟨g, 0, none⟩), .bool true]) ∧
      Mod (fun k => k = c) w w' ∧ Fs w' p [.chan (some c), v] ∧ Ch 4000 w' c (hs.map PT) ∧ Row (fun k => F k ∧ k ≠ p ∧ k ≠ c) w' 68 v (gs.map PT) := by
  obtain ⟨s, r, hb⟩ := h.ch
  refine (recv_some (u := PT g) h.f hb (by simp)).mono ?_
  rintro e w' ⟨rfl, rfl⟩
  exact ⟨rfl, h.pull⟩
/-- What was received stands behind those that are near. -/
theorem Bi.near {g : Nat} {w1 w2 w3 : World} {v2 : Value} (h : Bi X F w p c v gs (g :: hs) l) (hm : Mod (fun k => k = c) w w1) (hch : Ch 4000 w1 c (hs.map PT)) (hm2 : Mod (fun k => F k ∧ k ≠ p ∧ k ≠ c) w1 w2)
    (hr2 : Row (grow (fun k => F k ∧ k ≠ p ∧ k ≠ c) w1 w2) w2 68 v2 ((gs ++ [g]).map PT)) (hm3 : Mod (fun k => k = p) w2 w3) (f3 : Fs w3 p [.chan (some c), v2]) :
    Bi X (grow F w1 w2) w3 p c v2 (gs ++ [g]) hs l ∧ Upd F (grow F w1 w2) w w3 := by
  have s1 := hm.size
  have s2 := hm2.size
  have s3 := hm3.size
  have hp1 := Nat.lt_of_lt_of_le h.f.lt s1
  have hc1 := Nat.lt_of_lt_of_le h.ch.lt s1
  refine ⟨⟨f3, (hch.mod hm2 fun k => k.2.2 rfl).mod hm3 fun e => h.ne e.symm, ?_, .inl h.fp, .inl h.fc, h.ne, ?_, by have := h.len; simp at this ⊢; omega, h.few, fun i g' x h1 h2 => ?_⟩, ?_, fun k hk => hk.elim .inl fun hk => .inr ⟨by omega, by omega⟩⟩
  · have hr3 := hr2.mod hm3 (fun k hk e => by
      rcases hk with hk | hk
      · exact hk.2.1 e
      · omega)
    exact hr3.mono fun k hk => by
      rcases hk with hk | hk
      · exact ⟨.inl hk.1, hk.2.1, hk.2.2⟩
      · exact ⟨.inr hk, by omega, by omega⟩
  · rintro k (hk | hk)
    · have := h.lt k hk; omega
    · omega
  · rw [List.append_assoc] at h1
    obtain ⟨⟨h3, h4⟩, h5⟩ := h.box i g' x h1 h2
    have hl := h3.lt
    exact ⟨⟨((h3.mod hm fun e => h4 (e ▸ h.fc)).mod hm2 fun k => h4 k.1).mod hm3 fun e => h4 (e ▸ h.fp), fun hk => hk.elim h4 fun hk => by omega⟩, h5⟩
  · have m1 : Mod F w w1 := hm.mono fun k _ hk => hk ▸ h.fc
    have m2 : Mod F w1 w2 := hm2.mono fun k _ hk => hk.1
    have m3 : Mod F w2 w3 := hm3.mono fun k _ hk => hk ▸ h.fp
    exact (m1.trans m2 fun _ _ h => h).trans m3 fun _ _ h => h
end
/-- One of those that are near is taken out. -/
theorem Bi.erase {X F : Nat → Prop} {w w1 w2 : World} {p c : Nat} {v v2 : Value} {gs hs : List Nat} {l : List Int} {j : Nat} (h : Bi X F w p c v gs hs l) (hj : j < gs.length) (hm : Mod (fun k => F k ∧ k ≠ p ∧ k ≠ c) w w1) (hr : Row (fun k => F k ∧ k ≠ p ∧ k ≠ c) w1 68 v2 ((gs.eraseIdx j).map PT))
    (hm2 : Mod (fun k => k = p) w1 w2) (f2 : Fs w2 p [.chan (some c), v2]) : Bi X F w2 p c v2 (gs.eraseIdx j) hs (l.eraseIdx j) ∧ Mod F w w2 := by
  have s1 := hm.size
  have s2 := hm2.size
  have hlen := h.len
  have e1 := List.length_eraseIdx_of_lt hj
  have e2 := List.length_eraseIdx_of_lt (show j < l.length by omega)
  refine ⟨⟨f2, (h.ch.mod hm fun k => k.2.2 rfl).mod hm2 fun e => h.ne e.symm, hr.mod hm2 fun k hk e => hk.2.1 e, h.fp, h.fc, h.ne, fun k hk => by have := h.lt k hk; omega, by omega, by have := h.few; omega, fun i g x h1 h2 => ?_⟩, ?_⟩
  · rw [← List.eraseIdx_append_of_lt_length hj, List.getElem?_eraseIdx] at h1
    rw [List.getElem?_eraseIdx] at h2
    have : ∃ i' : Nat, (gs ++ hs)[i']? = some g ∧ l[i']? = some x := by
      by_cases hi : i < j
      · rw [if_pos hi] at h1 h2; exact ⟨_, h1, h2⟩
      · rw [if_neg hi] at h1 h2; exact ⟨_, h1, h2⟩
    obtain ⟨i', h1, h2⟩ := this
    obtain ⟨⟨h3, h4⟩, h5⟩ := h.box i' g x h1 h2
    exact ⟨⟨(h3.mod hm fun k => h4 k.1).mod hm2 fun e => h4 (e ▸ h.fp), h4⟩, h5⟩
  · exact (hm.mono fun k _ hk => hk.1).trans (hm2.mono (G := F) fun k _ hk => hk ▸ h.fp) fun _ _ h => h
theorem Bi.at_ {X F : Nat → Prop} {w : World} {p c : Nat} {v : Value} {gs hs : List Nat} {l : List Int} (h : Bi X F w p c v gs hs l) {j : Nat} {x : Int} (hx : l[j]? = some x) (hj : j < gs.length) : ∃ g, (gs.map PT)[j]? = some (.pointer (some ⟨g, 0, none⟩)) ∧ Fs w g [.int .i64 x] := by
  refine ⟨gs[j], by simp [List.getElem?_eq_getElem hj, PT], (h.box j gs[j] x ?_ hx).1.1⟩
  rw [List.getElem?_append_left hj, List.getElem?_eq_getElem hj]
theorem w_ptidx {P : Program} {ops : Array Oper} {rest : List Oper} {o : Oper} {a : Act} {Q : Exit → Act → World → Prop} {w : World} {t e : TypeId} {z : Value} {bytes : Nat} {v u : Value} {xs : List Value} (E : El P t e z bytes) (x y : Operand) (i : Nat) (hgd : o.guard = none) (ho : o.op = .indexAddr t x y) (hv : a.eval x = v) (h : Sl w v xs) (hy : a.eval y = .int .i64 i) (hu : xs[i]? = some u)
    (k : ∀ ad, w.cell? ad = some u → wpList P ops Q rest (a.put o.dst (.pointer (some ad))) w) : wpList P ops Q (o :: rest) a w := by
  obtain ⟨hi, rfl⟩ := List.getElem?_eq_some_iff.1 hu
  exact w_idx E x y i hgd ho hv h hy hi k
/-- What a walk measures: how many are in the channel. -/
def chN (w : World) (c : Nat) : Nat := match w.heap[c]? with
  | some (.chan _ buf _ _ _ _) => buf.size
  | _ => 0
theorem Ch.chN {n : Nat} {w : World} {c : Nat} {us : List Value} (h : Ch n w c us) : chN w c = us.length := by
  obtain ⟨s, r, h⟩ := h
  simp [Go.Proofs.Ytkkbpmkeemfppaa.chN, h]

set_option maxRecDepth 100000 in
set_option maxHeartbeats 3200000 in
theorem BPut_any {X F : Nat → Prop} {w : World} {p : Nat} {l : List Int} {x : Int} (h00 : Bx X F w p l) {q : Bool} (hq : decide (l.length < 4000) = q) (hXn : ∀ k, w.heap.size ≤ k → X k := by intros; trivial) :
    Calls Try.prog 15 #[.pointer (some ⟨p, 0, none⟩), .int .i64 x] w fun e w' => e = .returned (.bool q) ∧ Bx X F w' p (if q then l ++ [x] else l) ∧ Mod F w w' := by
  refine calls_keep ?_
  obtain ⟨c, v, gs, hs, h0⟩ := h00
  have t1 : decide ((l.length : Int) < 4000) = q := by rw [← hq]; exact decide_eq_decide.2 (by omega)
  have hlt := hide_ h0.lt
  have hXn' := hide_ hXn
  clear hXn
  have hB := hide_ h0
  have hX := Ext.refl w
  cases q
  · clear hq h0
    go_enter Try.func15, Try.ntmps15
    go_wp2_with ((first
      | go_big_skip
      | (go_at_call 22; refine (BLen_any (hB.out.ext hX)).mono ?_; rintro e w4 ⟨rfl, hx⟩; replace hX := hX.trans hx; clear hx)
      | ((with_reducible refine at_box ?_); refine w_box _ [.int .i64 x] rfl rfl rfl rfl ?_; intro g w1 hg hx f2; replace hX := hX.trans hx; clear hx; replace hg := hide_ hg)
      | fail) <;> (try simp only [Act.put, List.setIfInBounds_toArray, List.set_cons_zero, List.set_cons_succ]))
    go_ret
    exact Keep.intro ⟨rfl, ⟨c, v, gs, hs, hB.out.ext hX⟩, hX.mod _⟩
  · have hl := hide_ (of_decide_eq_true hq)
    clear hq h0
    go_enter Try.func15, Try.ntmps15
    go_wp2_with ((first
      | go_big_skip
      | (go_at_call 30; refine (send_any (x := x) (hB.out.ext hX) f2 (fun hf => Nat.lt_irrefl _ (Nat.lt_of_lt_of_le (hlt.out g hf) hg.out)) (hXn'.out g hg.out) hl.out).mono ?_; rintro e w4 ⟨rfl, hB2, hm⟩; replace hB2 := hide_ hB2)
      | (go_at_call 22; refine (BLen_any (hB.out.ext hX)).mono ?_; rintro e w4 ⟨rfl, hx⟩; replace hX := hX.trans hx; replace f2 := f2.ext hx; clear hx)
      | ((with_reducible refine at_box ?_); refine w_box _ [.int .i64 x] rfl rfl rfl rfl ?_; intro g w1 hg hx f2; replace hX := hX.trans hx; clear hx; replace hg := hide_ hg)
      | fail) <;> (try simp only [Act.put, List.setIfInBounds_toArray, List.set_cons_zero, List.set_cons_succ]))
    go_ret
    exact Keep.intro ⟨rfl, ⟨c, v, gs, _, hB2.out⟩, (hX.mod F).trans hm fun k _ hk => hk ▸ hB.out.fc⟩
set_option maxRecDepth 100000 in
set_option maxHeartbeats 3200000 in
theorem reach_any {X F : Nat → Prop} {w : World} {p : Nat} {l : List Int} {i : Int} (h00 : Bx X F w p l) {q : Bool} (hq0 : decide (0 ≤ i ∧ i < l.length) = q) :
    Calls Try.prog 32 #[.pointer (some ⟨p, 0, none⟩), .int .i64 i] w fun e w' => e = .returned (.bool q) ∧ ∃ F', Upd F F' w w' ∧ ∃ c v gs, (∃ hs, Bi X F' w' p c v gs hs l) ∧ (i < l.length → i < gs.length) := by
  refine calls_keep ?_
  have hq := hide_ hq0
  clear hq0
  obtain ⟨c, v, gs, hs, h0⟩ := h00
  have hB := hide_ h0
  clear h0
  go_enter Try.func32, Try.ntmps32
  go_wp2
  go_loopw [5] (fun _ wr => ∃ Fr v gs hs, Hid (Bi X Fr wr p c v gs hs l) ∧ Upd F Fr w wr) (fun _ wr => chN wr c)
  case atStart => exact ⟨F, v, gs, hs, hB, Upd.refl _ _⟩
  case round =>
    clear hB v gs hs
    obtain ⟨Fr, v, gs, hs, hB, hU⟩ := hrel
    have hX := Ext.refl wr
    have hgl := hide_ (show (gs.map PT).length = gs.length from List.length_map ..)
    have hlen := hide_ hB.out.len
    have hfew := hide_ hB.out.few
    by_cases hge : (gs.length : Int) ≤ i
    rotate_left
    · have t1 : decide ((gs.length : Int) ≤ i) = false := decide_eq_false hge
      have t2 : decide ((0 : Int) ≤ i) = q := by rw [← hq.out]; have h2 := hlen.out; exact decide_eq_decide.2 ⟨fun h => ⟨h, by omega⟩, fun h => h.1⟩
      have hge' := hide_ hge
      clear hge
      go_wp2_with ((first
        | ((with_reducible refine at_field ?_); (try refine w_yes _ _ _ rfl rfl rfl ?_); refine w_field Try.stBag _ _ _ rfl rfl rfl (by omega) ?_)
        | ((with_reducible refine at_load ?_); (try refine w_yes _ _ _ rfl rfl rfl ?_); refine w_fload _ rfl rfl rfl hB.out.f rfl (agg_of (by kernel_rfl)) ?_)
        | ((with_reducible refine at_bi ?_); refine w_len Try.elP _ rfl rfl rfl hB.out.row.sl ?_; rw [hgl.out])
        | fail) <;> (try simp only [Act.put, List.setIfInBounds_toArray, List.set_cons_zero, List.set_cons_succ]))
      go_ret
      exact Keep.intro ⟨rfl, Fr, hU, c, v, gs, ⟨hs, hB.out⟩, fun _ => by have := hge'.out; omega⟩
    have t1 : decide ((gs.length : Int) ≤ i) = true := decide_eq_true hge
    have hge' := hide_ hge
    clear hge
    cases hs with
    | nil =>
      obtain rfl : q = false := by rw [← hq.out]; have h2 := hlen.out; have h1 := hge'.out; simp only [List.length_nil] at h2; exact decide_eq_false (by omega)
      go_wp2_with ((first
        | (go_at_call 34; refine (recv_empty hB.out).mono ?_; rintro e w4 ⟨rfl, hx⟩; replace hX := hX.trans hx; clear hx)
        | ((with_reducible refine at_field ?_); (try refine w_yes _ _ _ rfl rfl rfl ?_); refine w_field Try.stBag _ _ _ rfl rfl rfl (by omega) ?_)
        | ((with_reducible refine at_load ?_); (try refine w_yes _ _ _ rfl rfl rfl ?_); refine w_fload _ rfl rfl rfl hB.out.f rfl (agg_of (by kernel_rfl)) ?_)
        | ((with_reducible refine at_bi ?_); refine w_len Try.elP _ rfl rfl rfl hB.out.row.sl ?_; rw [hgl.out])
        | fail) <;> (try simp only [Act.put, List.setIfInBounds_toArray, List.set_cons_zero, List.set_cons_succ]))
      go_ret
      exact Keep.intro ⟨rfl, Fr, hU.trans (Upd.ofExt hX Fr), c, v, gs, ⟨[], hB.out.ext hX⟩, fun h => by have h1 := hge'.out; have h2 := hlen.out; simp at h2; omega⟩
    | cons g hs =>
      have hbig := hide_ (show ((gs.map PT).length + [PT g].length) * 8 ≤ 140737488355328 from by have h2 := hlen.out; have h3 := hfew.out; simp at h2 ⊢; omega)
      have hcat := hide_ (show gs.map PT ++ [PT g] = (gs ++ [g]).map PT from by simp)
      go_wp2_with ((first
        | (go_at_call 34; refine (recv_one hB.out).mono ?_; rintro e w4 ⟨rfl, hm, f1, hch, hrow⟩; replace hm := hide_ hm; replace hch := hide_ hch; replace hrow := hide_ hrow)
        | ((with_reducible refine at_field ?_); (try refine w_yes _ _ _ rfl rfl rfl ?_); refine w_field Try.stBag _ _ _ rfl rfl rfl (by omega) ?_)
        | ((with_reducible refine at_load ?_); refine w_fload (.tmp 24) rfl rfl rfl f1 rfl (agg_of (by kernel_rfl)) ?_)
        | ((with_reducible refine at_load ?_); (try refine w_yes _ _ _ rfl rfl rfl ?_); refine w_fload _ rfl rfl rfl hB.out.f rfl (agg_of (by kernel_rfl)) ?_)
        | ((with_reducible refine at_bi ?_); refine w_len Try.elP _ rfl rfl rfl hB.out.row.sl ?_; rw [hgl.out])
        | ((with_reducible refine at_lit ?_); refine w_new Try.elP [PT g] rfl rfl rfl (by intro u hu; simp at hu; subst hu; rfl) rfl (by omega) ?_; intro v6 w6 hx6 o6; replace o6 := hide_ (Sl.of_own o6); replace f1 := f1.ext hx6; replace hm := hide_ (hm.out.trans (hx6.mod fun k => k = c) fun _ _ h => h); replace hch := hide_ (hch.out.ext hx6); replace hrow := hide_ (hrow.out.ext hx6); clear hx6)
        | ((with_reducible refine at_bi ?_); refine w_rapp Try.elP _ _ rfl rfl rfl rfl hrow.out o6.out (by intro u hu; simp at hu; subst hu; rfl) hbig.out ?_; intro v7 w7 hm7 hr7 _; rw [hcat.out] at hr7; replace f1 := f1.mod hm7 (fun h => h.2.1 rfl); replace hm7 := hide_ hm7; replace hr7 := hide_ hr7)
        | ((with_reducible refine at_store ?_); refine w_fstore (u := v7) _ _ rfl rfl rfl rfl rfl f1 (by simp) (oneCell_cells hr7.out.sl.one') hr7.out.sl.one' (by kernel_rfl) ?_; intro w8 hm8 f8; replace hm8 := hide_ hm8)
        | fail) <;> (try simp only [Act.put, List.setIfInBounds_toArray, List.set_cons_zero, List.set_cons_succ]))
      go_roundw
      case rel =>
        obtain ⟨hB2, hU2⟩ := hB.out.near hm.out hch.out hm7.out hr7.out hm8.out f8
        exact ⟨_, v7, gs ++ [g], hs, hide_ hB2, hU.trans hU2⟩
      case measure =>
        obtain ⟨hB2, hU2⟩ := hB.out.near hm.out hch.out hm7.out hr7.out hm8.out f8
        rw [hB2.ch.chN, hB.out.ch.chN]; simp
/-- What is at a place; is anything? -/
def atB (l : List Int) (i : Int) : Bool := decide (0 ≤ i ∧ i < l.length)
def atV (l : List Int) (i : Int) : Int := if atB l i then l.getD i.toNat 0 else 0
set_option maxRecDepth 100000 in
set_option maxHeartbeats 3200000 in
theorem BAt_any {X F : Nat → Prop} {w : World} {p : Nat} {l : List Int} {i x : Int} (h00 : Bx X F w p l) {q : Bool} (hq0 : atB l i = q) (hv0 : atV l i = x) :
    Calls Try.prog 21 #[.pointer (some ⟨p, 0, none⟩), .int .i64 i] w fun e w' => e = .returned (.tuple #[.int .i64 x, .bool q]) ∧ ∃ F', Upd F F' w w' ∧ ∃ c v gs, (∃ hs, Bi X F' w' p c v gs hs l) ∧ (i < l.length → i < gs.length) := by
  refine calls_keep ?_
  have hB := hide_ h00
  clear h00
  cases q
  · obtain rfl : 0 = x := by rw [← hv0]; unfold atV; rw [hq0]; rfl
    have hq' := hide_ (show decide (0 ≤ i ∧ i < l.length) = false from hq0)
    clear hv0 hq0
    go_enter Try.func21, Try.ntmps21
    go_wp2_with (first
      | (go_at_call 32; refine (reach_any (i := i) hB.out hq'.out).mono ?_; rintro e w4 ⟨rfl, F', hU, c, v, gs, ⟨hs, hB2⟩, hn⟩; replace hB2 := hide_ hB2; replace hn := hide_ hn)
      | fail)
    go_ret2
    exact Keep.intro ⟨rfl, F', hU, c, v, gs, ⟨hs, hB2.out⟩, hn.out⟩
  · have hq' := hide_ (show decide (0 ≤ i ∧ i < l.length) = true from hq0)
    obtain ⟨h1, h2⟩ := of_decide_eq_true hq'.out
    obtain ⟨j, rfl⟩ : ∃ j : Nat, i = j := ⟨i.toNat, by omega⟩
    have hj : j < l.length := by omega
    have hx := hide_ (show l[j]? = some x by rw [← hv0]; unfold atV; rw [hq0]; simp [List.getElem?_eq_getElem hj])
    clear hv0 hq0 h1 h2
    go_enter Try.func21, Try.ntmps21
    go_wp2_with ((first
      | (go_at_call 32; refine (reach_any (i := (j : Int)) hB.out hq'.out).mono ?_; rintro e w4 ⟨rfl, F', hU, c, v, gs, ⟨hs, hB2⟩, hn⟩; replace hB2 := hide_ hB2; replace hn := hide_ hn; obtain ⟨g, hg, hbx⟩ := hB2.out.at_ hx.out (by have := hn.out (by omega); omega); replace hg := hide_ hg; replace hbx := hide_ hbx)
      | ((with_reducible refine at_field ?_); (try refine w_yes _ _ _ rfl rfl rfl ?_); refine w_field Try.stBag _ _ _ rfl rfl rfl (by omega) ?_)
      | ((with_reducible refine at_load ?_); refine w_fload (.tmp 14) rfl rfl rfl hB2.out.f rfl (agg_of (by kernel_rfl)) ?_)
      | ((with_reducible refine at_idx ?_); refine w_ptidx Try.elP _ _ j rfl rfl rfl hB2.out.row.sl rfl hg.out ?_; intro ad had)
      | ((with_reducible refine at_load ?_); refine w_fload (.tmp 19) rfl rfl rfl hbx.out rfl (agg_of (by kernel_rfl)) ?_)
      | fail) <;> (try simp only [Act.put, List.setIfInBounds_toArray, List.set_cons_zero, List.set_cons_succ]))
    go_ret2
    exact Keep.intro ⟨rfl, F', hU, c, v, gs, ⟨hs, hB2.out⟩, hn.out⟩
set_option maxRecDepth 100000 in
set_option maxHeartbeats 3200000 in
theorem BTake_any {X F : Nat → Prop} {w : World} {p : Nat} {l : List Int} {i x : Int} (h00 : Bx X F w p l) {q : Bool} (hq0 : atB l i = q) (hv0 : atV l i = x) :
    Calls Try.prog 17 #[.pointer (some ⟨p, 0, none⟩), .int .i64 i] w fun e w' => e = .returned (.tuple #[.int .i64 x, .bool q]) ∧ ∃ F', Upd F F' w w' ∧ Bx X F' w' p (if q then l.eraseIdx i.toNat else l) := by
  refine calls_keep ?_
  have hB := hide_ h00
  have hv := hide_ hv0
  have hq' := hide_ hq0
  clear h00
  cases q
  · clear hv0 hq0
    go_enter Try.func17, Try.ntmps17
    go_wp2_with (first
      | (go_at_call 21; refine (BAt_any hB.out hq'.out hv.out).mono ?_; rintro e w4 ⟨rfl, F', hU, c, v, gs, ⟨hs, hB2⟩, hn⟩; replace hB2 := hide_ hB2; clear hn)
      | fail)
    go_ret2
    exact Keep.intro ⟨rfl, F', hU, c, v, gs, hs, hB2.out⟩
  · obtain ⟨h1, h2⟩ := of_decide_eq_true (show decide (0 ≤ i ∧ i < l.length) = true from hq0)
    obtain ⟨j, rfl⟩ : ∃ j : Nat, i = j := ⟨i.toNat, by omega⟩
    have hj := hide_ (show j < l.length by omega)
    have hfew : l.length ≤ 4000 := by obtain ⟨_, _, _, _, h⟩ := hB.out; exact h.few
    have hjb : j < 4000 := Nat.lt_of_lt_of_le hj.out hfew
    clear hv0 hq0 h1 h2
    go_enter Try.func17, Try.ntmps17
    go_wp2_with ((first
      | (go_at_call 21; refine (BAt_any hB.out hq'.out hv.out).mono ?_; rintro e w4 ⟨rfl, F', hU, c, v, gs, ⟨hs, hB2⟩, hn⟩; replace hB2 := hide_ hB2; replace hn := hide_ (show j < gs.length from by have := hn (by have := hj.out; omega); omega); have hgf := hide_ (show gs.length ≤ 4000 from by have := hB2.out.len; have := hB2.out.few; omega))
      | (go_at_call 31; refine (DelP_any hB2.out.row hn.out hgf.out (by omega)).mono ?_; rintro e w5 ⟨v5, rfl, hm5, hr5⟩; have f5 := hB2.out.f.mod hm5 (fun h => h.2.1 rfl); replace hm5 := hide_ hm5; replace hr5 := hide_ hr5)
      | ((with_reducible refine at_field ?_); (try refine w_yes _ _ _ rfl rfl rfl ?_); refine w_field Try.stBag _ _ _ rfl rfl rfl (by omega) ?_)
      | ((with_reducible refine at_load ?_); (try refine w_yes _ _ _ rfl rfl rfl ?_); refine w_fload _ rfl rfl rfl hB2.out.f rfl (agg_of (by kernel_rfl)) ?_)
      | ((with_reducible refine at_store ?_); refine w_fstore (u := v5) _ _ rfl rfl rfl rfl rfl f5 (by simp) (oneCell_cells hr5.out.sl.one') hr5.out.sl.one' (by kernel_rfl) ?_; intro w8 hm8 f8; replace hm8 := hide_ hm8)
      | fail) <;> (try simp only [Act.put, List.setIfInBounds_toArray, List.set_cons_zero, List.set_cons_succ]))
    go_ret2
    obtain ⟨hB3, hM3⟩ := hB2.out.erase hn.out hm5.out hr5.out hm8.out f8
    exact Keep.intro ⟨rfl, F', hU.trans ⟨hM3, fun _ h => .inl h⟩, c, v5, _, hs, hB3⟩
set_option maxRecDepth 100000 in
set_option maxHeartbeats 3200000 in
theorem BDouble_any {X F : Nat → Prop} {w : World} {p : Nat} {l : List Int} {i x : Int} (h00 : Bx X F w p l) {q r : Bool} (hq0 : atB l i = q) (hv0 : atV l i = x) (hr0 : (q && decide (l.length < 4000)) = r) (hXn : ∀ k, w.heap.size ≤ k → X k := by intros; trivial) :
    Calls Try.prog 19 #[.pointer (some ⟨p, 0, none⟩), .int .i64 i] w fun e w' => e = .returned (.bool r) ∧ ∃ F', Upd F F' w w' ∧ Bx X F' w' p (if r then l ++ [x] else l) := by
  refine calls_keep ?_
  have hB := hide_ h00
  have hv := hide_ hv0
  have hq' := hide_ hq0
  have hXn' := hide_ hXn
  clear h00 hv0 hq0 hXn
  cases q
  · obtain rfl : false = r := hr0
    go_enter Try.func19, Try.ntmps19
    go_wp2_with (first
      | go_big_skip
      | (go_at_call 21; refine (BAt_any hB.out hq'.out hv.out).mono ?_; rintro e w4 ⟨rfl, F', hU, c, v, gs, ⟨hs, hB2⟩, hn⟩; replace hB2 := hide_ hB2; clear hn)
      | fail)
    go_ret
    exact Keep.intro ⟨rfl, F', hU, c, v, gs, hs, hB2.out⟩
  · have hr := hide_ (show decide (l.length < 4000) = r from hr0)
    clear hr0
    cases r
    · skip
      go_enter Try.func19, Try.ntmps19
      go_wp2_with (first
        | go_big_skip
        | (go_at_call 21; refine (BAt_any hB.out hq'.out hv.out).mono ?_; rintro e w4 ⟨rfl, F', hU, c, v, gs, ⟨hs, hB2⟩, hn⟩; replace hB2 := hide_ (show Bx X F' w4 p l from ⟨c, v, gs, hs, hB2⟩); clear hn)
        | (go_at_call 15; refine (BPut_any (x := x) hB2.out hr.out (fun k hk => hXn'.out k (Nat.le_trans hU.size hk))).mono ?_; rintro e w5 ⟨rfl, hB3, hm⟩; replace hB3 := hide_ hB3)
        | fail)
      go_ret
      exact Keep.intro ⟨rfl, F', hU.trans ⟨hm, fun _ h => .inl h⟩, hB3.out⟩
    · skip
      go_enter Try.func19, Try.ntmps19
      go_wp2_with (first
        | go_big_skip
        | (go_at_call 21; refine (BAt_any hB.out hq'.out hv.out).mono ?_; rintro e w4 ⟨rfl, F', hU, c, v, gs, ⟨hs, hB2⟩, hn⟩; replace hB2 := hide_ (show Bx X F' w4 p l from ⟨c, v, gs, hs, hB2⟩); clear hn)
        | (go_at_call 15; refine (BPut_any (x := x) hB2.out hr.out (fun k hk => hXn'.out k (Nat.le_trans hU.size hk))).mono ?_; rintro e w5 ⟨rfl, hB3, hm⟩; replace hB3 := hide_ hB3)
        | fail)
      go_ret
      exact Keep.intro ⟨rfl, F', hU.trans ⟨hm, fun _ h => .inl h⟩, hB3.out⟩
end Go.Proofs.Ytkkbpmkeemfppaa
