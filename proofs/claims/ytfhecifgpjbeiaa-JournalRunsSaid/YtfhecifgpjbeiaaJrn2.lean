/- The contract of journal.fromBody. -/
import Derived.Test.YtfhecifgpjbeiaaJrn1
import Derived.Test.YtfhecifgpjbeiaaRNums
import Derived.Test.YtfhecifgpjbeiaaRegS
namespace Go.Proofs.Ytfhecifgpjbeiaa
open Go.RowKit

section
variable {w : World} {v : Value} {b s : List Nat} {xs : List Int}
theorem rnO4 (b : List Nat) : rnO 4 b = rns 4 b := by rw [rnO, if_neg (by omega)]; rfl
theorem RNums4_yes (h : rns 4 b = some (xs, s)) (hb : ∀ x ∈ b, x < 256) (hl : b.length ≤ 140737488355328) (hv : Byt w v b) : Calls Try.prog 50 #[v, .int .i64 4] w fun e w' => ∃ v1 v2, e = .returned (.tuple #[v1, v2, .int .i64 0]) ∧ Ints w' v1 xs ∧ Byt w' v2 s ∧ Ext w w' := by
  refine (ReadNums_any v b 4 w hb hv hl).mono ?_
  rintro e w' ⟨v1, v2, rfl, h1, h2, h3⟩
  rw [rnO4, h] at h1 h2 ⊢
  exact ⟨v1, v2, rfl, h1, h2, h3⟩
theorem RNums4_no (h : rns 4 b = none) (hb : ∀ x ∈ b, x < 256) (hl : b.length ≤ 140737488355328) (hv : Byt w v b) : Calls Try.prog 50 #[v, .int .i64 4] w fun e w' => ∃ v1 v2, e = .returned (.tuple #[v1, v2, .int .i64 11]) ∧ Ext w w' := by
  refine (ReadNums_any v b 4 w hb hv hl).mono ?_
  rintro e w' ⟨v1, v2, rfl, h1, h2, h3⟩
  rw [rnO4, h]
  exact ⟨v1, v2, rfl, h3⟩
theorem RText_yes (h : RtOk b) (hb : ∀ x ∈ b, x < 256) (hl : b.length ≤ 140737488355328) (hv : Byt w v b) : Calls Try.prog 41 #[v] w fun e w' => ∃ v1 v2, e = .returned (.tuple #[v1, v2, .int .i64 0]) ∧ Nb w.heap.size w' v1 (rtL b) ∧ Byt w' v2 (rtRest b) ∧ Ext w w' := by
  refine (ReadText_new v b w hb hv hl).mono ?_
  rintro e w' ⟨v1, v2, rfl, h1, h2, h3⟩
  exact ⟨v1, v2, by rw [rtErr, if_pos h]; rfl, h1, h2.1, h3⟩
theorem RText_no (h : ¬ RtOk b) (hb : ∀ x ∈ b, x < 256) (hl : b.length ≤ 140737488355328) (hv : Byt w v b) : Calls Try.prog 41 #[v] w fun e w' => ∃ v1 v2, e = .returned (.tuple #[v1, v2, .int .i64 11]) ∧ Ext w w' := by
  refine (ReadText_any v b w hb hv hl).mono ?_
  rintro e w' ⟨v1, v2, rfl, h1, h2, h3⟩
  exact ⟨v1, v2, by rw [rtErr, if_neg h]; rfl, h3⟩
end
def zero5 : List Value := [.int .i64 0, .int .i64 0, .int .i64 0, .int .i64 0, .slice none 0 0]
theorem zero5_one : ∀ u ∈ zero5, u.oneCell' = true := by intro u hu; simp [zero5] at hu; rcases hu with rfl | rfl <;> rfl
/-- A record whose text is new, from block lo on. -/
def RecN (lo : Nat) (w : World) (row : List Value) (d : RecD) : Prop := (∃ u4 : Value, row = [.int .i64 d.k, .int .i64 d.i, .int .i64 d.v, .int .i64 d.x, u4] ∧ Nb lo w u4 d.t) ∧ d.Raw
theorem RecN.recR {lo : Nat} {w : World} {row : List Value} {d : RecD} (h : RecN lo w row d) : RecR w row d := by
  obtain ⟨⟨u, h1, h2⟩, h3⟩ := h
  exact ⟨⟨u, h1, h2.1⟩, h3⟩
theorem RecN.zero (lo : Nat) (w : World) : RecN lo w zero5 RecD.zero := ⟨⟨_, rfl, Nb.nil lo w⟩, ⟨by simp [RecD.zero], by simp [RecD.zero], by simp [RecD.zero], by simp [RecD.zero], by simp [RecD.zero]⟩⟩
theorem Nb.modF {lo g : Nat} {w w' : World} {v : Value} {l : List Nat} {cs : List Value} (h : Nb lo w v l) (hf : Fs w g cs) (hcs : ∀ u ∈ cs, ∀ z, u ≠ .int .u8 z) (hm : Mod (fun k => k = g) w w') : Nb lo w' v l :=
  ⟨h.1.modF hf hcs hm, fun k hk => ⟨(h.2 k hk).1, Nat.lt_of_lt_of_le (h.2 k hk).2 hm.size⟩⟩
theorem RecR.zero (w : World) : RecR w zero5 RecD.zero := ⟨⟨_, rfl, Byt.nil w⟩, ⟨by simp [RecD.zero], by simp [RecD.zero], by simp [RecD.zero], by simp [RecD.zero], by simp [RecD.zero]⟩⟩
theorem rec5_one {a b c d : Int} {u : Value} (h : u.oneCell' = true) : ∀ y ∈ [Value.int .i64 a, .int .i64 b, .int .i64 c, .int .i64 d, u], y.oneCell' = true := by
  intro y hy
  rcases List.mem_cons.1 hy with rfl | hy
  · rfl
  rcases List.mem_cons.1 hy with rfl | hy
  · rfl
  rcases List.mem_cons.1 hy with rfl | hy
  · rfl
  rcases List.mem_cons.1 hy with rfl | hy
  · rfl
  rw [List.mem_singleton] at hy; subst hy; exact h
theorem Byt.one' {w : World} {v : Value} {l : List Nat} (h : Byt w v l) : v.oneCell' = true := Sl.one' h
theorem inner_no1 {b : List Nat} (h : rns 4 b = none) : inner b = none := by unfold inner; rw [h]
theorem inner_no2 {b s : List Nat} {k i x y : Int} (h : rns 4 b = some ([k, i, x, y], s)) (hn : ¬ (RtOk s ∧ rtRest s = [] ∧ (⟨k, i, x, y, rtL s⟩ : RecD).Ok)) : inner b = none := by
  unfold inner; rw [h]; exact if_neg hn
theorem inner_yes {b s : List Nat} {k i x y : Int} (h : rns 4 b = some ([k, i, x, y], s)) (hn : RtOk s ∧ rtRest s = [] ∧ (⟨k, i, x, y, rtL s⟩ : RecD).Ok) : inner b = some ⟨k, i, x, y, rtL s⟩ := by
  unfold inner; rw [h]; exact if_pos hn

set_option maxRecDepth 100000 in
set_option maxHeartbeats 1600000 in
theorem fromBody_any {w : World} {v : Value} {b : List Nat} (hb : ∀ x ∈ b, x < 256) (hlen : b.length ≤ 140737488355328) (hv : Byt w v b) :
    Calls Try.prog 42 #[v] w fun e w' => ∃ row, e = .returned (.tuple #[.agg row.toArray, .bool (inner b).isSome]) ∧ Ext w w' ∧ RecN w.heap.size w' row (orZ (inner b)) := by
  refine calls_keep ?_
  replace hlen := hide_ hlen
  have No : inner b = none → Hid (∀ e w', e = .returned (.tuple #[.agg zero5.toArray, .bool false]) → Ext w w' → Keep (fun e w' => ∃ row, e = .returned (.tuple #[.agg row.toArray, .bool (inner b).isSome]) ∧ Ext w w' ∧ RecN w.heap.size w' row (orZ (inner b))) e w') := fun h => hide_ (fun e w' he hx => Keep.intro ⟨zero5, by rw [he, h]; rfl, hx, by rw [h]; exact RecN.zero _ w'⟩)
  cases hr : rns 4 b with
  | none =>
    replace No := No (inner_no1 hr)
    replace hr := hide_ hr
    go_enter Try.func42, Try.ntmps42
    go_wp2_with ((first
      | (refine w_alloc Try.stRec rfl rfl ?_; intro g2 w1 hg2 hX f2)
      | (go_at_call 50; refine (RNums4_no hr.out hb hlen.out (hv.ext hX)).mono ?_; rintro e w2 ⟨v1, v2, rfl, hx2⟩; replace f2 := f2.ext hx2; replace hX := hX.trans hx2; clear hx2)
      | (refine w_sbuild Try.stRec zero5 rfl rfl rfl (by intro p hp; simp at hp) ?_)
      | (refine w_astore Try.stRec (us := zero5) _ _ rfl rfl rfl rfl rfl f2 rfl rfl zero5_one ?_; intro w8 hm8 f8; have hX8 := hm8.after hX (fun i e => e ▸ hg2))
      | fail) <;> (try simp only [Act.put, List.setIfInBounds_toArray, List.set_cons_zero, List.set_cons_succ]))
    exact bodyPost_ret (ret_two Try.stRec rfl rfl rfl f8 rfl) rfl (No.out _ w8 rfl hX8)
  | some p =>
    obtain ⟨xs, s⟩ := p
    obtain ⟨hbs, hxl, hxi⟩ := rns_was 4 b xs s hb hr
    obtain ⟨k, i, x, y, rfl⟩ : ∃ k i x y, xs = [k, i, x, y] := by
      match xs, hxl with
      | [k, i, x, y], _ => exact ⟨k, i, x, y, rfl⟩
    have hs : ∀ z ∈ s, z < 256 := fun z hz => hb z (by rw [hbs]; exact List.mem_append_right _ hz)
    have hslen := hide_ (show s.length ≤ 140737488355328 from by have := hlen.out; rw [hbs] at this; simp at this; omega)
    have hraw : Hid ((⟨k, i, x, y, rtL s⟩ : RecD).Raw) := hide_ (by
      have h1 := hxi k (by simp); have h2 := hxi i (by simp); have h3 := hxi x (by simp); have h4 := hxi y (by simp)
      refine ⟨by simp only; omega, by simp only; omega, by simp only; omega, by simp only; omega, rtL_lt hs, ?_⟩
      unfold rtL; split
      · rename_i h; have := h.2.1; simp; omega
      · simp)
    by_cases ht : RtOk s
    · by_cases hz : rtRest s = []
      · have t1 : decide (0 < (rtRest s).length) = false := by rw [hz]; rfl
        have hr' := hr
        replace hr := hide_ hr
        by_cases hok : (⟨k, i, x, y, rtL s⟩ : RecD).Ok
        · have hin := hide_ (inner_yes hr' ⟨ht, hz, hok⟩)
          replace ht := hide_ ht
          have hdec := hide_ (decide_eq_true hok)
          clear hok hz hr' No hbs hxl hxi
          go_enter Try.func42, Try.ntmps42
          go_wp2_with ((first
            | (refine w_alloc Try.stRec rfl rfl ?_; intro g2 w1 hg2 hX f2)
            | (go_at_call 50; refine (RNums4_yes hr.out hb hlen.out (hv.ext hX)).mono ?_; rintro e w2 ⟨v1, v2, rfl, i1, b2, hx2⟩; replace f2 := f2.ext hx2; replace hX := hX.trans hx2; clear hx2)
            | (go_at_call 41; refine (RText_yes ht.out hs hslen.out b2).mono ?_; rintro e w3 ⟨v3, v4, rfl, n3, b4, hx3⟩; replace n3 := n3.mono hX.size; have b3 := n3.1; replace i1 := i1.ext hx3; replace f2 := f2.ext hx3; replace hX := hX.trans hx3; clear hx3 b2)
            | ((try refine w_yes _ _ _ rfl rfl rfl ?_); refine b_len _ rfl rfl (v := v4) rfl b4 ?_)
            | fail) <;> (try simp only [Act.put, List.setIfInBounds_toArray, List.set_cons_zero, List.set_cons_succ]))
          refine wp_region_phx (by kernel_rfl) ?_; intro wd hxd; replace i1 := i1.ext hxd; replace b3 := b3.ext hxd; have hN3 := hxd; replace f2 := f2.ext hxd; replace hX := hX.trans hxd
          refine Ph.gate 0 15 (by kernel_rfl) ?_
          refine LinL.step (s := (.val (v1))) [(4, none)] rfl (by kernel_rfl) (op_out 4 (v1) rfl (.inl rfl) rfl) ?_
          refine LinL.step (s := (Sp.ptr (.int .i64 (k)))) [(31, some 0)] rfl (by kernel_rfl) (op_runs rfl fun σ w' hx hg => rptri (ρ := σ.eval) (w := w') (.tmp 31) (.const (.int .i64 0)) rfl hg.1 (i1.ext hx) 0 rfl (by simp) rfl) ?_
          refine LinL.step (s := (.val (.int .i64 (k : Int)))) [(32, some 0)] rfl (by kernel_rfl) (op_runs rfl fun σ w' hx hg => ⟨_, runs_load (ρ := σ.eval) (w := w') (.tmp 32) rfl Try.underlying3 rfl hg.1, rfl⟩) ?_
          refine LinL.step (s := (.val (v1))) [(4, none)] rfl (by kernel_rfl) (op_out 4 (v1) rfl (.inl rfl) rfl) ?_
          refine LinL.step (s := (Sp.ptr (.int .i64 (i)))) [(34, some 0)] rfl (by kernel_rfl) (op_runs rfl fun σ w' hx hg => rptri (ρ := σ.eval) (w := w') (.tmp 34) (.const (.int .i64 1)) rfl hg.1 (i1.ext hx) 1 rfl (by simp) rfl) ?_
          refine LinL.step (s := (.val (.int .i64 (i : Int)))) [(35, some 0)] rfl (by kernel_rfl) (op_runs rfl fun σ w' hx hg => ⟨_, runs_load (ρ := σ.eval) (w := w') (.tmp 35) rfl Try.underlying3 rfl hg.1, rfl⟩) ?_
          refine LinL.step (s := (.val (v1))) [(4, none)] rfl (by kernel_rfl) (op_out 4 (v1) rfl (.inl rfl) rfl) ?_
          refine LinL.step (s := (Sp.ptr (.int .i64 (x)))) [(37, some 0)] rfl (by kernel_rfl) (op_runs rfl fun σ w' hx hg => rptri (ρ := σ.eval) (w := w') (.tmp 37) (.const (.int .i64 2)) rfl hg.1 (i1.ext hx) 2 rfl (by simp) rfl) ?_
          refine LinL.step (s := (.val (.int .i64 (x : Int)))) [(38, some 0)] rfl (by kernel_rfl) (op_runs rfl fun σ w' hx hg => ⟨_, runs_load (ρ := σ.eval) (w := w') (.tmp 38) rfl Try.underlying3 rfl hg.1, rfl⟩) ?_
          refine LinL.step (s := (.val (v1))) [(4, none)] rfl (by kernel_rfl) (op_out 4 (v1) rfl (.inl rfl) rfl) ?_
          refine LinL.step (s := (Sp.ptr (.int .i64 (y)))) [(40, some 0)] rfl (by kernel_rfl) (op_runs rfl fun σ w' hx hg => rptri (ρ := σ.eval) (w := w') (.tmp 40) (.const (.int .i64 3)) rfl hg.1 (i1.ext hx) 3 rfl (by simp) rfl) ?_
          refine LinL.step (s := (.val (.int .i64 (y : Int)))) [(41, some 0)] rfl (by kernel_rfl) (op_runs rfl fun σ w' hx hg => ⟨_, runs_load (ρ := σ.eval) (w := w') (.tmp 41) rfl Try.underlying3 rfl hg.1, rfl⟩) ?_
          refine LinL.step (s := (.val (v3))) [(6, none)] rfl (by kernel_rfl) (op_out 6 (v3) rfl (.inl rfl) rfl) ?_
          refine LinL.step (s := (.val (.agg #[.int .i64 k, .int .i64 i, .int .i64 x, .int .i64 y, v3]))) [(33, some 10), (36, some 7), (39, some 4), (42, some 1), (43, some 0)] rfl (by kernel_rfl) (op_runs rfl fun σ w' hx hg => ⟨_, runs_sbuild (ρ := σ.eval) (w := w') Try.stRec [.int .i64 k, .int .i64 i, .int .i64 x, .int .i64 y, v3] (ps := #[(0, .tmp 33), (1, .tmp 36), (2, .tmp 39), (3, .tmp 42), (4, .tmp 43)]) rfl (by have h33 : σ.tmps.getD 33 undef = .int .i64 (k : Int) := hg.1; have h36 : σ.tmps.getD 36 undef = .int .i64 (i : Int) := hg.2.1; have h39 : σ.tmps.getD 39 undef = .int .i64 (x : Int) := hg.2.2.1; have h42 : σ.tmps.getD 42 undef = .int .i64 (y : Int) := hg.2.2.2.1; have h43 : σ.tmps.getD 43 undef = v3 := hg.2.2.2.2.1; simp only [List.map_cons, List.map_nil, Act.eval, h33, h36, h39, h42, h43, List.foldl_cons, List.foldl_nil, List.set_cons_zero, List.set_cons_succ]) (by have h33 : σ.tmps.getD 33 undef = .int .i64 (k : Int) := hg.1; have h36 : σ.tmps.getD 36 undef = .int .i64 (i : Int) := hg.2.1; have h39 : σ.tmps.getD 39 undef = .int .i64 (x : Int) := hg.2.2.1; have h42 : σ.tmps.getD 42 undef = .int .i64 (y : Int) := hg.2.2.2.1; have h43 : σ.tmps.getD 43 undef = v3 := hg.2.2.2.2.1; intro p hp; simp at hp; rcases hp with rfl | rfl | rfl | rfl | rfl; exact ⟨by decide, by show (σ.tmps.getD 33 undef).cells = #[σ.tmps.getD 33 undef]; rw [h33]; exact rfl⟩; exact ⟨by decide, by show (σ.tmps.getD 36 undef).cells = #[σ.tmps.getD 36 undef]; rw [h36]; exact rfl⟩; exact ⟨by decide, by show (σ.tmps.getD 39 undef).cells = #[σ.tmps.getD 39 undef]; rw [h39]; exact rfl⟩; exact ⟨by decide, by show (σ.tmps.getD 42 undef).cells = #[σ.tmps.getD 42 undef]; rw [h42]; exact rfl⟩; exact ⟨by decide, by show (σ.tmps.getD 43 undef).cells = #[σ.tmps.getD 43 undef]; rw [h43]; exact oneCell_cells b3.one'⟩), rfl⟩) ?_
          refine LinL.step (s := (Sp.fs wd.heap.size [.int .i64 0, .int .i64 0, .int .i64 0, .int .i64 0, .slice none 0 0])) [] rfl (by kernel_rfl) (op_alloc Try.stRec (Nat.le_refl _) rfl rfl) ?_
          intro wN hxN
          simp only [Fin', Sp.ptr, Sp.fs, List.reverse_cons, List.reverse_nil, List.nil_append, List.cons_append, List.drop_zero, List.take_succ_cons, List.take_zero]
          intro q32 hq32 q35 hq35 q38 hq38 q41 hq41 q7 hq7
          simp only [Act.put, List.setIfInBounds_toArray, List.set_cons_zero, List.set_cons_succ]
          obtain ⟨g7, rfl, hg7, f7⟩ := hq7
          refine wpOp_of_list rfl ?_
          refine w_astore Try.stRec (us := [.int .i64 k, .int .i64 i, .int .i64 x, .int .i64 y, v3]) _ _ rfl rfl rfl rfl rfl f7 rfl rfl (rec5_one b3.one') ?_; intro w7 hm7 f7'; replace f7 := f7'; clear f7'
          have hx7 : Ext wd w7 := hm7.after hxN (fun j e => e ▸ hg7)
          replace f2 := (f2.ext hxN).mod hm7 (fun e => by have := f2.lt; omega)
          have hX3 := hx7
          replace hX := hX.trans hx7
          show Ph Try.prog _ _ 16 _ _
          refine Ph.rest 16 0 (by kernel_rfl) ?_
          intro wN2 hxN2
          simp only [Fin', List.reverse_nil, List.drop_zero, List.drop_succ_cons, List.take_zero]
          replace f7 := f7.ext hxN2; replace f2 := f2.ext hxN2; replace hX := hX.trans hxN2; replace hX3 := hX3.trans hxN2
          go_wp2_with ((first
            | (refine w_aload Try.stRec _ rfl rfl rfl f7 rfl ?_)
            | (go_at_call 30; refine (canBe_any (RecR.made (r := ⟨k, i, x, y, rtL s⟩) b3 hraw.out hX3)).mono ?_; rintro e w9 ⟨rfl, hx9⟩; rw [hdec.out]; replace f7 := f7.ext hx9; replace f2 := f2.ext hx9; replace hX := hX.trans hx9; replace hX3 := hX3.trans hx9; clear hx9)
            | (refine w_astore Try.stRec (us := [.int .i64 k, .int .i64 i, .int .i64 x, .int .i64 y, v3]) _ _ rfl rfl rfl rfl rfl f2 rfl rfl (rec5_one b3.one') ?_; intro w8 hm8 f8; have hX8 := hm8.after hX (fun i e => e ▸ hg2); have b8 := Nb.modF (n3.ext (hN3.trans hX3)) f2 (rec5_nob (Sl.nob (Sl.nil w))) hm8)
            | fail) <;> (try simp only [Act.put, List.setIfInBounds_toArray, List.set_cons_zero, List.set_cons_succ]))
          exact bodyPost_ret (ret_two Try.stRec rfl rfl rfl f8 rfl) rfl (Keep.intro ⟨_, by rw [hin.out]; rfl, hX8, by rw [hin.out]; exact ⟨⟨_, rfl, b8⟩, hraw.out⟩⟩)
        · replace No := No (inner_no2 hr' (fun h => hok h.2.2))
          replace ht := hide_ ht
          have hdec := hide_ (decide_eq_false hok)
          clear hok hz hr' hbs hxl hxi
          go_enter Try.func42, Try.ntmps42
          go_wp2_with ((first
            | (refine w_alloc Try.stRec rfl rfl ?_; intro g2 w1 hg2 hX f2)
            | (go_at_call 50; refine (RNums4_yes hr.out hb hlen.out (hv.ext hX)).mono ?_; rintro e w2 ⟨v1, v2, rfl, i1, b2, hx2⟩; replace f2 := f2.ext hx2; replace hX := hX.trans hx2; clear hx2)
            | (go_at_call 41; refine (RText_yes ht.out hs hslen.out b2).mono ?_; rintro e w3 ⟨v3, v4, rfl, n3, b4, hx3⟩; replace n3 := n3.mono hX.size; have b3 := n3.1; replace i1 := i1.ext hx3; replace f2 := f2.ext hx3; replace hX := hX.trans hx3; clear hx3 b2)
            | ((try refine w_yes _ _ _ rfl rfl rfl ?_); refine b_len _ rfl rfl (v := v4) rfl b4 ?_)
            | fail) <;> (try simp only [Act.put, List.setIfInBounds_toArray, List.set_cons_zero, List.set_cons_succ]))
          refine wp_region_phx (by kernel_rfl) ?_; intro wd hxd; replace i1 := i1.ext hxd; replace b3 := b3.ext hxd; have hN3 := hxd; replace f2 := f2.ext hxd; replace hX := hX.trans hxd
          refine Ph.gate 0 15 (by kernel_rfl) ?_
          refine LinL.step (s := (.val (v1))) [(4, none)] rfl (by kernel_rfl) (op_out 4 (v1) rfl (.inl rfl) rfl) ?_
          refine LinL.step (s := (Sp.ptr (.int .i64 (k)))) [(31, some 0)] rfl (by kernel_rfl) (op_runs rfl fun σ w' hx hg => rptri (ρ := σ.eval) (w := w') (.tmp 31) (.const (.int .i64 0)) rfl hg.1 (i1.ext hx) 0 rfl (by simp) rfl) ?_
          refine LinL.step (s := (.val (.int .i64 (k : Int)))) [(32, some 0)] rfl (by kernel_rfl) (op_runs rfl fun σ w' hx hg => ⟨_, runs_load (ρ := σ.eval) (w := w') (.tmp 32) rfl Try.underlying3 rfl hg.1, rfl⟩) ?_
          refine LinL.step (s := (.val (v1))) [(4, none)] rfl (by kernel_rfl) (op_out 4 (v1) rfl (.inl rfl) rfl) ?_
          refine LinL.step (s := (Sp.ptr (.int .i64 (i)))) [(34, some 0)] rfl (by kernel_rfl) (op_runs rfl fun σ w' hx hg => rptri (ρ := σ.eval) (w := w') (.tmp 34) (.const (.int .i64 1)) rfl hg.1 (i1.ext hx) 1 rfl (by simp) rfl) ?_
          refine LinL.step (s := (.val (.int .i64 (i : Int)))) [(35, some 0)] rfl (by kernel_rfl) (op_runs rfl fun σ w' hx hg => ⟨_, runs_load (ρ := σ.eval) (w := w') (.tmp 35) rfl Try.underlying3 rfl hg.1, rfl⟩) ?_
          refine LinL.step (s := (.val (v1))) [(4, none)] rfl (by kernel_rfl) (op_out 4 (v1) rfl (.inl rfl) rfl) ?_
          refine LinL.step (s := (Sp.ptr (.int .i64 (x)))) [(37, some 0)] rfl (by kernel_rfl) (op_runs rfl fun σ w' hx hg => rptri (ρ := σ.eval) (w := w') (.tmp 37) (.const (.int .i64 2)) rfl hg.1 (i1.ext hx) 2 rfl (by simp) rfl) ?_
          refine LinL.step (s := (.val (.int .i64 (x : Int)))) [(38, some 0)] rfl (by kernel_rfl) (op_runs rfl fun σ w' hx hg => ⟨_, runs_load (ρ := σ.eval) (w := w') (.tmp 38) rfl Try.underlying3 rfl hg.1, rfl⟩) ?_
          refine LinL.step (s := (.val (v1))) [(4, none)] rfl (by kernel_rfl) (op_out 4 (v1) rfl (.inl rfl) rfl) ?_
          refine LinL.step (s := (Sp.ptr (.int .i64 (y)))) [(40, some 0)] rfl (by kernel_rfl) (op_runs rfl fun σ w' hx hg => rptri (ρ := σ.eval) (w := w') (.tmp 40) (.const (.int .i64 3)) rfl hg.1 (i1.ext hx) 3 rfl (by simp) rfl) ?_
          refine LinL.step (s := (.val (.int .i64 (y : Int)))) [(41, some 0)] rfl (by kernel_rfl) (op_runs rfl fun σ w' hx hg => ⟨_, runs_load (ρ := σ.eval) (w := w') (.tmp 41) rfl Try.underlying3 rfl hg.1, rfl⟩) ?_
          refine LinL.step (s := (.val (v3))) [(6, none)] rfl (by kernel_rfl) (op_out 6 (v3) rfl (.inl rfl) rfl) ?_
          refine LinL.step (s := (.val (.agg #[.int .i64 k, .int .i64 i, .int .i64 x, .int .i64 y, v3]))) [(33, some 10), (36, some 7), (39, some 4), (42, some 1), (43, some 0)] rfl (by kernel_rfl) (op_runs rfl fun σ w' hx hg => ⟨_, runs_sbuild (ρ := σ.eval) (w := w') Try.stRec [.int .i64 k, .int .i64 i, .int .i64 x, .int .i64 y, v3] (ps := #[(0, .tmp 33), (1, .tmp 36), (2, .tmp 39), (3, .tmp 42), (4, .tmp 43)]) rfl (by have h33 : σ.tmps.getD 33 undef = .int .i64 (k : Int) := hg.1; have h36 : σ.tmps.getD 36 undef = .int .i64 (i : Int) := hg.2.1; have h39 : σ.tmps.getD 39 undef = .int .i64 (x : Int) := hg.2.2.1; have h42 : σ.tmps.getD 42 undef = .int .i64 (y : Int) := hg.2.2.2.1; have h43 : σ.tmps.getD 43 undef = v3 := hg.2.2.2.2.1; simp only [List.map_cons, List.map_nil, Act.eval, h33, h36, h39, h42, h43, List.foldl_cons, List.foldl_nil, List.set_cons_zero, List.set_cons_succ]) (by have h33 : σ.tmps.getD 33 undef = .int .i64 (k : Int) := hg.1; have h36 : σ.tmps.getD 36 undef = .int .i64 (i : Int) := hg.2.1; have h39 : σ.tmps.getD 39 undef = .int .i64 (x : Int) := hg.2.2.1; have h42 : σ.tmps.getD 42 undef = .int .i64 (y : Int) := hg.2.2.2.1; have h43 : σ.tmps.getD 43 undef = v3 := hg.2.2.2.2.1; intro p hp; simp at hp; rcases hp with rfl | rfl | rfl | rfl | rfl; exact ⟨by decide, by show (σ.tmps.getD 33 undef).cells = #[σ.tmps.getD 33 undef]; rw [h33]; exact rfl⟩; exact ⟨by decide, by show (σ.tmps.getD 36 undef).cells = #[σ.tmps.getD 36 undef]; rw [h36]; exact rfl⟩; exact ⟨by decide, by show (σ.tmps.getD 39 undef).cells = #[σ.tmps.getD 39 undef]; rw [h39]; exact rfl⟩; exact ⟨by decide, by show (σ.tmps.getD 42 undef).cells = #[σ.tmps.getD 42 undef]; rw [h42]; exact rfl⟩; exact ⟨by decide, by show (σ.tmps.getD 43 undef).cells = #[σ.tmps.getD 43 undef]; rw [h43]; exact oneCell_cells b3.one'⟩), rfl⟩) ?_
          refine LinL.step (s := (Sp.fs wd.heap.size [.int .i64 0, .int .i64 0, .int .i64 0, .int .i64 0, .slice none 0 0])) [] rfl (by kernel_rfl) (op_alloc Try.stRec (Nat.le_refl _) rfl rfl) ?_
          intro wN hxN
          simp only [Fin', Sp.ptr, Sp.fs, List.reverse_cons, List.reverse_nil, List.nil_append, List.cons_append, List.drop_zero, List.take_succ_cons, List.take_zero]
          intro q32 hq32 q35 hq35 q38 hq38 q41 hq41 q7 hq7
          simp only [Act.put, List.setIfInBounds_toArray, List.set_cons_zero, List.set_cons_succ]
          obtain ⟨g7, rfl, hg7, f7⟩ := hq7
          refine wpOp_of_list rfl ?_
          refine w_astore Try.stRec (us := [.int .i64 k, .int .i64 i, .int .i64 x, .int .i64 y, v3]) _ _ rfl rfl rfl rfl rfl f7 rfl rfl (rec5_one b3.one') ?_; intro w7 hm7 f7'; replace f7 := f7'; clear f7'
          have hx7 : Ext wd w7 := hm7.after hxN (fun j e => e ▸ hg7)
          replace f2 := (f2.ext hxN).mod hm7 (fun e => by have := f2.lt; omega)
          have hX3 := hx7
          replace hX := hX.trans hx7
          show Ph Try.prog _ _ 16 _ _
          refine Ph.rest 16 0 (by kernel_rfl) ?_
          intro wN2 hxN2
          simp only [Fin', List.reverse_nil, List.drop_zero, List.drop_succ_cons, List.take_zero]
          replace f7 := f7.ext hxN2; replace f2 := f2.ext hxN2; replace hX := hX.trans hxN2; replace hX3 := hX3.trans hxN2
          go_wp2_with ((first
            | (refine w_aload Try.stRec _ rfl rfl rfl f7 rfl ?_)
            | (go_at_call 30; refine (canBe_any (RecR.made (r := ⟨k, i, x, y, rtL s⟩) b3 hraw.out hX3)).mono ?_; rintro e w9 ⟨rfl, hx9⟩; rw [hdec.out]; replace f7 := f7.ext hx9; replace f2 := f2.ext hx9; replace hX := hX.trans hx9; clear hx9)
            | (refine w_sbuild Try.stRec zero5 rfl rfl rfl (by intro p hp; simp at hp) ?_)
            | (refine w_astore Try.stRec (us := zero5) _ _ rfl rfl rfl rfl rfl f2 rfl rfl zero5_one ?_; intro w8 hm8 f8; have hX8 := hm8.after hX (fun i e => e ▸ hg2))
            | fail) <;> (try simp only [Act.put, List.setIfInBounds_toArray, List.set_cons_zero, List.set_cons_succ]))
          exact bodyPost_ret (ret_two Try.stRec rfl rfl rfl f8 rfl) rfl (No.out _ w8 rfl hX8)
      · have t1 : decide (0 < (rtRest s).length) = true := by
          have : 0 < (rtRest s).length := List.length_pos_iff.2 hz
          exact decide_eq_true this
        replace No := No (inner_no2 hr (fun h => hz h.2.1))
        replace hr := hide_ hr
        replace ht := hide_ ht
        clear hz hbs hxl hxi
        go_enter Try.func42, Try.ntmps42
        go_wp2_with ((first
          | (refine w_alloc Try.stRec rfl rfl ?_; intro g2 w1 hg2 hX f2)
          | (go_at_call 50; refine (RNums4_yes hr.out hb hlen.out (hv.ext hX)).mono ?_; rintro e w2 ⟨v1, v2, rfl, i1, b2, hx2⟩; replace f2 := f2.ext hx2; replace hX := hX.trans hx2; clear hx2)
          | (go_at_call 41; refine (RText_yes ht.out hs hslen.out b2).mono ?_; rintro e w3 ⟨v3, v4, rfl, n3, b4, hx3⟩; replace n3 := n3.mono hX.size; have b3 := n3.1; replace i1 := i1.ext hx3; replace f2 := f2.ext hx3; replace hX := hX.trans hx3; clear hx3 b2)
          | ((try refine w_yes _ _ _ rfl rfl rfl ?_); refine b_len _ rfl rfl (v := v4) rfl b4 ?_)
          | (refine w_sbuild Try.stRec zero5 rfl rfl rfl (by intro p hp; simp at hp) ?_)
          | (refine w_astore Try.stRec (us := zero5) _ _ rfl rfl rfl rfl rfl f2 rfl rfl zero5_one ?_; intro w8 hm8 f8; have hX8 := hm8.after hX (fun i e => e ▸ hg2))
          | fail) <;> (try simp only [Act.put, List.setIfInBounds_toArray, List.set_cons_zero, List.set_cons_succ]))
        exact bodyPost_ret (ret_two Try.stRec rfl rfl rfl f8 rfl) rfl (No.out _ w8 rfl hX8)
    · replace No := No (inner_no2 hr (fun h => ht h.1))
      replace hr := hide_ hr
      replace ht := hide_ ht
      clear hbs hxl hxi
      go_enter Try.func42, Try.ntmps42
      go_wp2_with ((first
        | (refine w_alloc Try.stRec rfl rfl ?_; intro g2 w1 hg2 hX f2)
        | (go_at_call 50; refine (RNums4_yes hr.out hb hlen.out (hv.ext hX)).mono ?_; rintro e w2 ⟨v1, v2, rfl, i1, b2, hx2⟩; replace f2 := f2.ext hx2; replace hX := hX.trans hx2; clear hx2)
        | (go_at_call 41; refine (RText_no ht.out hs hslen.out b2).mono ?_; rintro e w3 ⟨v3, v4, rfl, hx3⟩; replace f2 := f2.ext hx3; replace hX := hX.trans hx3; clear hx3 b2)
        | (refine w_sbuild Try.stRec zero5 rfl rfl rfl (by intro p hp; simp at hp) ?_)
        | (refine w_astore Try.stRec (us := zero5) _ _ rfl rfl rfl rfl rfl f2 rfl rfl zero5_one ?_; intro w8 hm8 f8; have hX8 := hm8.after hX (fun i e => e ▸ hg2))
        | fail) <;> (try simp only [Act.put, List.setIfInBounds_toArray, List.set_cons_zero, List.set_cons_succ]))
      exact bodyPost_ret (ret_two Try.stRec rfl rfl rfl f8 rfl) rfl (No.out _ w8 rfl hX8)
end Go.Proofs.Ytfhecifgpjbeiaa
