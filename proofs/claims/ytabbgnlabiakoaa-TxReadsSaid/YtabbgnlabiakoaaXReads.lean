/- The statement TxReads: the transaction, and the transactions, of any bytes are the document's. No condition. -/
import Derived.Test.YtabbgnlabiakoaaXNames
import Derived.Test.YtabbgnlabiakoaaArgB
import Derived.Test.YtabbgnlabiakoaaLitStep
namespace Go.Proofs.Ytabbgnlabiakoaa
open Go.RowKit Go.ChangeShapes Go.WideShapes Go.ChangeAt

set_option maxRecDepth 100000 in
set_option maxHeartbeats 3200000 in
theorem txReads_law (v : Value) (b : List Nat) (W : World) (hb : Byt W v b) (hl : ∀ x ∈ b, x < 256) (hlen0 : b.length ≤ 140737488351232) :
    Calls Try.prog 6 #[v] W fun e w' => e = .returned (.bool true) ∧ Ext W w' := by
  refine calls_keep ?_
  have hlen := hide_ (show b.length ≤ 140737488355328 from by omega)
  have happ := hide_ (show ([] : List Nat).length + b.length ≤ 140737488355328 from by simp; omega)
  obtain ⟨t, ht0⟩ : ∃ t, tOr (rdTx b) = t := ⟨_, rfl⟩
  obtain ⟨n, he0⟩ : ∃ n, oE (rdTx b) = n := ⟨_, rfl⟩
  obtain ⟨n2, hle0⟩ : ∃ n, oE (rdLs b) = n := ⟨_, rfl⟩
  obtain ⟨m, hll0⟩ : ∃ m, (rdLs b).getD [] = m := ⟨_, rfl⟩
  have ht := hide_ ht0
  have he := hide_ he0
  have hle := hide_ hle0
  have hll := hide_ hll0
  clear ht0 he0 hle0 hll0 hlen0
  go_enter Try.func6, Try.ntmps6
  go_wp2_with ((first
    | (go_at_call 10; refine (TRead_any hl hlen.out b2).mono ?_; rintro e w1 ⟨rfl, hx⟩; rw [ht.out, he.out]; replace hX := hX.trans hx; clear hx b2)
    | (go_at_call 20; refine (refTRead_any hl hlen.out (hb.ext hX)).mono ?_; rintro e w4 ⟨rfl, hx⟩; rw [ht.out, he.out]; replace f3 := f3.ext hx; replace hX := hX.trans hx; clear hx)
    | (go_at_call 21; refine (TReadList_any hl hlen.out b2).mono ?_; rintro e w7 ⟨v7, rfl, hx, o7⟩; rw [hle.out]; rw [hll.out] at o7; have r7 := o7.recs; clear o7 b2; replace f3 := f3.ext hx; replace f5 := f5.ext hx; replace hX := hX.trans hx; clear hx)
    | (go_at_call 22; refine (refTReadList_any hl hlen.out (hb.ext hX)).mono ?_; rintro e w8 ⟨v9, rfl, hx, r9⟩; rw [hle.out]; rw [hll.out] at r9; replace f3 := f3.ext hx; replace f5 := f5.ext hx; replace r7 := r7.ext TxR.stays hx; replace hX := hX.trans hx; clear hx)
    | (go_at_call 11; refine (alive_any _).mono ?_; rintro e w9 ⟨rfl, hx⟩; (try replace f3 := f3.ext hx); (try replace f5 := f5.ext hx); (try replace r7 := r7.ext TxR.stays hx); (try replace r9 := r9.ext TxR.stays hx); replace hX := hX.trans hx; clear hx)
    | ((try refine w_yes _ _ _ rfl rfl rfl ?_); go_at_call 23; refine (Same_any r7 r9).mono ?_; rintro e w10 ⟨rfl, hx⟩; (try replace f3 := f3.ext hx); (try replace f5 := f5.ext hx); (try replace r7 := r7.ext TxR.stays hx); (try replace r9 := r9.ext TxR.stays hx); replace hX := hX.trans hx; clear hx)
    | (refine w_bempty (o := ⟨some 12, _, _, _, _, _⟩) rfl rfl ?_; intro v1 wn B hB1 hBl hxn o1)
    | (refine appb (o := ⟨some 14, _, _, _, _, _⟩) _ _ rfl rfl rfl rfl o1 (hb.ext hxn) happ.out hBl ?_; intro v2 wa o2 hba hga; rw [List.nil_append] at o2; have hX := hxn.trans' (hba.mono hB1); have b2 := o2.byt; clear o1 o2 hba hga hxn hB1 hBl)
    | (refine w_alloc (o := ⟨some 3, _, _, _, _, _⟩) Try.stTx rfl rfl ?_; intro g3 w2 hg3 hx2 f3)
    | (refine w_astore Try.stTx (us := [.int .i64 t.id, .int .i64 t.fee]) _ _ rfl rfl rfl rfl rfl f3 rfl rfl t.one ?_; intro w3 hm3 f3'; replace f3 := f3'; replace hX := hX.trans (hm3.after hx2 (fun i e => e ▸ hg3)); clear f3' hm3 hx2 hg3)
    | (refine w_alloc (o := ⟨some 5, _, _, _, _, _⟩) Try.stTx rfl rfl ?_; intro g5 w5 hg5 hx5 f5; have n35 : ¬ g3 = g5 := (by have := f3.lt; omega); replace f3 := f3.ext hx5)
    | (refine w_astore Try.stTx (us := [.int .i64 t.id, .int .i64 t.fee]) _ _ rfl rfl rfl rfl rfl f5 rfl rfl t.one ?_; intro w6 hm6 f5'; replace f5 := f5'; replace f3 := f3.mod hm6 n35; replace hX := hX.trans (hm6.after hx5 (fun i e => e ▸ hg5)); clear f5' hm6 hx5 hg5 n35)
    | (refine w_bempty (o := ⟨some 24, _, _, _, _, _⟩) rfl rfl ?_; intro v1 wn B hB1 hBl hxn o1)
    | (refine appb (o := ⟨some 26, _, _, _, _, _⟩) _ _ rfl rfl rfl rfl o1 ((hb.ext hX).ext hxn) happ.out hBl ?_; intro v2 wa o2 hba hga; rw [List.nil_append] at o2; have hx := hxn.trans' (hba.mono hB1); have b2 := o2.byt; clear o1 o2 hba hga hxn hB1 hBl; (try replace f3 := f3.ext hx); (try replace f5 := f5.ext hx); (try replace r7 := r7.ext TxR.stays hx); (try replace r9 := r9.ext TxR.stays hx); replace hX := hX.trans hx; clear hx)
    | ((try refine w_yes _ _ _ rfl rfl rfl ?_); refine w_aload Try.stTx _ rfl rfl rfl f3 rfl ?_)
    | ((try refine w_yes _ _ _ rfl rfl rfl ?_); refine w_aload Try.stTx _ rfl rfl rfl f5 rfl ?_)
    | ((try refine w_yes _ _ _ rfl rfl rfl ?_); refine w_txeq _ _ t t rfl rfl rfl rfl ?_)
    | fail) <;> (try simp only [Act.put, List.setIfInBounds_toArray, List.set_cons_zero, List.set_cons_succ]))
  go_ret
  exact Keep.intro ⟨rfl, hX⟩

set_option maxRecDepth 100000 in
theorem txReads_lifted (os : Os) (started : os.Started) (H : Type) (enc : TypeId × Value → H) :
    ReturnsInHanded {} Try.checked os 6 .any (Rows.txReadsSpec.pre6 enc Try.prog Try.f6 Rows.txReadsRow.domain false) (Rows.txReadsSpec.post enc Try.prog Try.f6 false true false false) := by
  refine law_lifted (s := Rows.txReadsSpec) (conds := Rows.txReadsRow.domain) Try.func6 (by kernel_rfl) rfl (fun H ds h => by
      rw [show Try.f6.params.size = 1 from rfl] at h
      match ds, h with
      | [d0], _ => rfl) rfl rfl (by decide +kernel) os started H enc
    (ChangeSpec.witness6 (enc := enc) (C := Try.checked) false ⟨#[], #[.slice none 0 0], []⟩ 8 (by kernel_rfl) (by kernel_rfl) (by kernel_rfl) (by kernel_rfl)) ?_
  intro W base args ds p hval hA hsz _
  have hp : Try.f6.params.toList = [28] := rfl
  rw [hp] at hA hsz
  obtain ⟨v0, d0, rfl, rfl, h0⟩ := trodAll_one hA
  obtain ⟨l0, a0, b0, c0⟩ := arg_bytes hsz (j := 0) rfl rfl (hval 0 28 v0 rfl rfl) h0
  exact txReads_law v0 l0 W a0 b0 c0

theorem txReads_holds : Rows.TxReadsSaid :=
  OpenClaim.holds_of_wide 6 Try.f6 rfl rfl rfl rfl rfl rfl rfl ⟨rfl, rfl, rfl, rfl, rfl⟩ rfl rfl rfl rfl rfl (by kernel_rfl) Try.func6 (by kernel_rfl)
    (of_decide_eq_true (by kernel_rfl)) (by unfold Func.isWrapper; first | (rw [if_pos (by decide +kernel)]; kernel_rfl) | (rw [if_neg (by decide +kernel)]; exact ⟨rfl, rfl⟩))
    (fun os started H enc _ => txReads_lifted os started H enc)
#print axioms txReads_holds

end Go.Proofs.Ytabbgnlabiakoaa
