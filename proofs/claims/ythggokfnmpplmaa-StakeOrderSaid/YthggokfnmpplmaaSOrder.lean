/- The statement StakeOrder: a set's order, and who comes twice, or isn't there, is nothing. No condition. -/
import Derived.Test.YthggokfnmpplmaaSAlive
import Derived.Test.YthggokfnmpplmaaRegI
namespace Go.Proofs.Ythggokfnmpplmaa
open Go.RowKit Go.ChangeShapes Go.WideShapes Go.ChangeAt

/-- The other list, when the first k are still to come. -/
def oth (who : List Int) (k : Nat) : List Int := [-1, 7, 99] ++ (who.drop k).reverse.flatMap fun x => [x, x]
theorem oth_len (who : List Int) (k : Nat) : (oth who k).length = 3 + 2 * (who.length - k) := by
  have h : ∀ l : List Int, (l.flatMap fun x => [x, x]).length = 2 * l.length := fun l => by
    induction l with
    | nil => rfl
    | cons x l ih => rw [List.flatMap_cons, List.length_append, ih]; simp; omega
  unfold oth
  rw [List.length_append, h]; simp
theorem oth_all (who : List Int) : oth who who.length = [-1, 7, 99] := by simp [oth]
theorem oth_step (who : List Int) {k : Nat} (hk : k < who.length) : oth who k = oth who (k + 1) ++ [who[k], who[k]] := by
  unfold oth
  rw [List.drop_eq_getElem_cons hk, List.reverse_cons, List.flatMap_append, List.append_assoc]
  rfl
theorem inn_twice (l : List Int) (i : Nat) : inn (l.reverse.flatMap fun x => [x, x]) i = inn l i := by
  induction l with
  | nil => rfl
  | cons x l ih =>
    rw [List.reverse_cons, List.flatMap_append, inn_app, ih]
    simp [inn]
    exact Bool.or_comm _ _
theorem inn_oth (who : List Int) {i : Nat} (hi : i < 7) : inn (oth who 0) i = inn who i := by
  unfold oth
  rw [inn_app, List.drop_zero, inn_twice]
  have : inn [-1, 7, 99] i = false := by
    unfold inn
    rw [List.any_eq_false]
    intro x hx
    simp at hx
    rw [beq_iff_eq]
    omega
  rw [this, Bool.false_or]
theorem oth_i64 {who : List Int} (h : I64 who) : I64 (oth who 0) := by
  intro x hx
  unfold oth at hx
  simp at hx
  rcases hx with rfl | rfl | rfl | hx
  · omega
  · omega
  · omega
  · exact h x hx

set_option maxRecDepth 100000 in
set_option maxHeartbeats 1600000 in
theorem stakeOrder_law (v u : Value) (t who : List Int) (W : World) (h : Ints W v t) (hu : Ints W u who) (hI : I64 who) (hlen : who.length * 8 ≤ 140737488351232) :
    Calls Try.prog 7 #[v, u] W fun e w' => e = .returned (.bool true) ∧ Ext W w' := by
  refine calls_keep ?_
  by_cases ht : StOk t
  · have e0 := hide_ (show chk t = 0 from if_pos ht)
    by_cases hbig : 1000 < who.length
    · have t0 : (decide ((1000 : Int) < (who.length : Int))) = true := by simp; omega
      clear hI hlen hbig
      go_enter Try.func7, Try.ntmps7
      go_wp2_with (first
        | (go_at_call 9; refine (alive_any _).mono ?_; rintro e w1 ⟨rfl, hx1⟩; have k1 := h.ext hx1)
        | (go_at_call 11; refine (Check_any v t _ k1).mono ?_; rintro e w0 ⟨rfl, rfl⟩; rw [e0.out])
        | (refine w_yes _ _ _ rfl rfl rfl ?_; refine i_len (.tmp 13) rfl rfl (v := u) rfl (hu.ext hx1) ?_))
      go_ret
      exact Keep.intro ⟨rfl, hx1⟩
    · have t0 : (decide ((1000 : Int) < (who.length : Int))) = false := by simp; omega
      have hle : who.length ≤ 1000 := by omega
      clear hbig hlen
      have A := hide_ (show Asked W v u t who from ⟨ht, h, hu, hI, by omega⟩)
      have HI := hide_ (oth_i64 hI)
      have hs := hide_ (show sumS t (oth who 0) = sumS t who from sum_same fun i hi => inn_oth who (by have := ht.2.1; omega))
      have hm := hide_ (show most t (oth who 0) = most t who from by unfold most; rw [hs.out])
      have Ht := hide_ ht
      clear hI ht
      go_enter Try.func7, Try.ntmps7
      go_wp2_with (first
        | (go_at_call 9; refine (alive_any _).mono ?_; rintro e w1 ⟨rfl, hx1⟩; have k1 := h.ext hx1)
        | (go_at_call 11; refine (Check_any v t _ k1).mono ?_; rintro e w0 ⟨rfl, rfl⟩; rw [e0.out])
        | (refine w_yes _ _ _ rfl rfl rfl ?_; refine i_len (.tmp 13) rfl rfl (v := u) rfl (hu.ext hx1) ?_)
        | (refine w_new Try.elI (o := ⟨some 17, _, _, _, _, _⟩) (i64s [-1, 7, 99]) rfl rfl rfl (i64s_cells _) rfl (by omega) ?_; intro v2 w2 hx2 ho2; have o2 : OwnI _ w2 v2 [-1, 7, 99] := ho2; have X2 := hx1.trans hx2; clear ho2)
        | (refine i_len (.tmp 18) rfl rfl (v := u) rfl (hu.ext X2) ?_))
      have o3 := hide_ (show OwnI W.heap.size w2 v2 (oth who who.length) from by rw [oth_all]; exact o2.mono hx1.size)
      clear o2
      go_loopw [5, 6] (fun out i wr => ∃ (k : Nat), i = .int .i64 ((k : Int) - 1) ∧ k ≤ who.length ∧ Hid (OwnI W.heap.size wr out (oth who k)) ∧ Ext W wr)
        (fun _ i _ => (intOf i + 1).toNat)
      case atStart => exact ⟨who.length, rfl, Nat.le_refl _, o3, X2⟩
      case round =>
        obtain ⟨k, rfl, hk, ho, hX⟩ := hrel
        rcases k with _ | m
        · have AO := hide_ (show Asked wr v u5 t (oth who 0) from ⟨Ht.out, h.ext hX, ho.out.ints, HI.out, by rw [oth_len]; omega⟩)
          have A0 := A.out.ext hX
          obtain ⟨s, hs1⟩ : ∃ s, s = sumS t who := ⟨_, rfl⟩
          obtain ⟨b, hb1⟩ : ∃ b, b = most t who := ⟨_, rfl⟩
          have Hs := hide_ hs1
          have Hb := hide_ hb1
          clear hs1 hb1
          go_wp2_with (first
            | (go_at_call 14; ((with_reducible refine (Sum_of AO.out).mono ?_); rintro e w5 ⟨rfl, hx5⟩; rw [hs.out, ← Hs.out]; have A5 := A0.ext hx5; have O5 := AO.out.ext hx5; have X5 := hX.trans hx5))
            | (go_at_call 14; ((with_reducible refine (Sum_of A5).mono ?_); rintro e w6 ⟨rfl, hx6⟩; rw [← Hs.out]; have A6 := A5.ext hx6; have O6 := O5.ext hx6; have X6 := X5.trans hx6))
            | (go_at_call 15; ((with_reducible refine (Most_of O6).mono ?_); rintro e w7 ⟨rfl, hx7⟩; rw [hm.out, ← Hb.out]; have A7 := A6.ext hx7; have X7 := X6.trans hx7))
            | (go_at_call 15; ((with_reducible refine (Most_of A7).mono ?_); rintro e w8 ⟨rfl, hx8⟩; rw [← Hb.out]; have X8 := X7.trans hx8)))
          go_ret
          exact Keep.intro ⟨rfl, X8⟩
        · rw [show (((m + 1 : Nat) : Int) - 1) = (m : Int) from by omega]
          have hlt : m < who.length := by omega
          have K0 := hide_ ((hu.ext hX).ext (Ext.refl _).drew)
          have K1 := hide_ (own_ext ho.out (Ext.refl _).drew)
          have Hst := hide_ (oth_step who hlt)
          have hol := hide_ (oth_len who (m + 1))
          obtain ⟨x, hx⟩ : ∃ x, x = who[m] := ⟨_, rfl⟩
          have Hx := hide_ hx
          rw [← hx] at Hst
          clear hx
          go_wp2
          refine wp_region_linT 10 (by kernel_rfl) (by kernel_rfl) ?_
          refine LinR.step (s := (.val u5)) [(5, none)] rfl (by kernel_rfl) (op_out 5 u5 rfl (.inl rfl) rfl) ?_
          refine LinR.step (s := (.val u)) [(1, none)] rfl (by kernel_rfl) (op_out 1 u rfl (.inl rfl) rfl) ?_
          refine LinR.step (s := (.val (.int .i64 m))) [(6, none)] rfl (by kernel_rfl) (op_out 6 (.int .i64 m) rfl (.inl rfl) rfl) ?_
          refine LinR.step (s := (Sp.ptr (.int .i64 x))) [(26, some 1), (27, some 0)] rfl (by kernel_rfl) (op_runs rfl fun σ w' hx hg => rptri (ρ := σ.eval) (w := w') (.tmp 26) (.tmp 27) rfl (hg.1) (K0.out.ext hx) m hg.2.1 hlt Hx.out.symm) ?_
          refine LinR.step (s := (.val (.int .i64 x))) [(28, some 0)] rfl (by kernel_rfl) (op_runs rfl fun σ w' hx hg => ⟨_, runs_load (ρ := σ.eval) (w := w') (.tmp 28) rfl Try.underlying3 rfl hg.1, rfl⟩) ?_
          refine LinR.step (s := (.val u)) [(1, none)] rfl (by kernel_rfl) (op_out 1 u rfl (.inl rfl) rfl) ?_
          refine LinR.step (s := (.val (.int .i64 m))) [(6, none)] rfl (by kernel_rfl) (op_out 6 (.int .i64 m) rfl (.inl rfl) rfl) ?_
          refine LinR.step (s := (Sp.ptr (.int .i64 x))) [(30, some 1), (31, some 0)] rfl (by kernel_rfl) (op_runs rfl fun σ w' hx hg => rptri (ρ := σ.eval) (w := w') (.tmp 30) (.tmp 31) rfl (hg.1) (K0.out.ext hx) m hg.2.1 hlt Hx.out.symm) ?_
          refine LinR.step (s := (.val (.int .i64 x))) [(32, some 0)] rfl (by kernel_rfl) (op_runs rfl fun σ w' hx hg => ⟨_, runs_load (ρ := σ.eval) (w := w') (.tmp 32) rfl Try.underlying3 rfl hg.1, rfl⟩) ?_
          refine LinR.step (s := (.sl (i64s [x, x]))) [(29, some 4), (33, some 0)] rfl (by kernel_rfl) (op_build Try.elI (i64s [x, x]) 2 #[(0, .tmp 29), (1, .tmp 33)] rfl rfl rfl (by omega) (i64s_cells _) fun σ w' hx hg => by
            have h29 : σ.tmps.getD 29 undef = .int .i64 x := hg.1
            have h33 : σ.tmps.getD 33 undef = .int .i64 x := hg.2.1
            show [(0, σ.tmps.getD 29 undef), (1, σ.tmps.getD 33 undef)] = _
            rw [h29, h33]; rfl) ?_
          intro wN hxN
          simp only [Fin', Sp.ptr, List.reverse_cons, List.reverse_nil, List.nil_append, List.cons_append, List.take_succ_cons, List.take_zero]
          intro q28 hq28 q32 hq32 q34 hq34
          simp only [Act.put, List.setIfInBounds_toArray, List.set_cons_zero, List.set_cons_succ, List.drop_succ_cons, List.drop_zero]
          have KN := own_ext K1.out hxN
          have XN : Ext W wN := (hX.trans (Ext.refl _).drew).trans hxN
          clear hq28 hq32
          go_wp2_with (first
            | (at_builtin; refine appi (.tmp 25) (.tmp 34) rfl rfl rfl rfl (ys := [x, x]) KN hq34 (by rw [hol.out]; simp; omega) XN.size ?_; intro v9 w9 ho9 hb9 hg9 hl9))
          go_roundw
          case rel => exact ⟨m, by go_num, by omega, by rw [Hst.out]; exact ho9, XN.trans' hb9⟩
          case measure => simp [intOf]
  · have e0 := hide_ (show chk t = 31 from if_neg ht)
    clear hI ht
    go_enter Try.func7, Try.ntmps7
    go_wp2_with (first
      | (go_at_call 9; refine (alive_any _).mono ?_; rintro e w1 ⟨rfl, hx1⟩; have k1 := h.ext hx1)
      | (go_at_call 11; refine (Check_any v t _ k1).mono ?_; rintro e w0 ⟨rfl, rfl⟩; rw [e0.out]))
    go_ret
    exact Keep.intro ⟨rfl, hx1⟩

set_option maxRecDepth 100000 in
theorem stakeOrder_lifted (os : Os) (started : os.Started) (H : Type) (enc : TypeId × Value → H) :
    ReturnsInHanded {} Try.checked os 7 .any (Rows.stakeOrderSpec.pre6 enc Try.prog Try.f7 Rows.stakeOrderRow.domain false) (Rows.stakeOrderSpec.post enc Try.prog Try.f7 false true false false) := by
  refine law_lifted (s := Rows.stakeOrderSpec) (conds := Rows.stakeOrderRow.domain) Try.func7 (by kernel_rfl) rfl (fun H ds h => by
      rw [show Try.f7.params.size = 2 from rfl] at h
      match ds, h with
      | [d0, d1], _ => rfl) rfl rfl (by decide +kernel) os started H enc
    (ChangeSpec.witness6 (enc := enc) (C := Try.checked) false ⟨#[], #[.slice none 0 0, .slice none 0 0], []⟩ 8 (by kernel_rfl) (by kernel_rfl) (by kernel_rfl) (by kernel_rfl)) ?_
  intro W base args ds p hval hA hsz _
  have hp : Try.f7.params.toList = [24, 24] := rfl
  rw [hp] at hA hsz
  obtain ⟨v0, v1, d0, d1, p0, p1, rfl, rfl, rfl, h0, h1⟩ := trodAll_two hA
  obtain ⟨l0, a0, b0, c0⟩ := arg_ints hsz (j := 0) rfl rfl (hval 0 24 v0 rfl rfl) h0
  obtain ⟨l1, a1, b1, c1⟩ := arg_ints hsz (j := 1) rfl rfl (hval 1 24 v1 rfl rfl) h1
  exact stakeOrder_law v0 v1 l0 l1 W a0 a1 b1 c1

theorem stakeOrder_holds : Rows.StakeOrderSaid :=
  OpenClaim.holds_of_wide 7 Try.f7 rfl rfl rfl rfl rfl rfl rfl ⟨rfl, rfl, rfl, rfl, rfl⟩ rfl rfl rfl rfl rfl (by kernel_rfl) Try.func7 (by kernel_rfl)
    (of_decide_eq_true (by kernel_rfl)) (by unfold Func.isWrapper; first | (rw [if_pos (by decide +kernel)]; kernel_rfl) | (rw [if_neg (by decide +kernel)]; exact ⟨rfl, rfl⟩))
    (fun os started H enc _ => stakeOrder_lifted os started H enc)
#print axioms stakeOrder_holds

end Go.Proofs.Ythggokfnmpplmaa
