/- The statement BlockReads: the block of any bytes is the document's. No condition. -/
import Derived.Test.YtcjmcnepfnhnlaaBNames
namespace Go.Proofs.Ytcjmcnepfnhnlaa
open Go.RowKit Go.ChangeShapes Go.WideShapes Go.ChangeAt

set_option maxRecDepth 100000 in
set_option maxHeartbeats 1600000 in
theorem blockReads_law (vb : Value) (b : List Nat) (W : World) (hb : Byt W vb b) (hb256' : ∀ x ∈ b, x < 256) (hblen' : b.length ≤ 140737488351232) : Calls Try.prog 6 #[vb] W fun e w' => e = .returned (.bool true) ∧ Ext W w' := by
  refine calls_keep ?_
  have hb256 := hide_ hb256'
  have hblen := hide_ (show b.length ≤ 140737488355328 from by omega)
  have happ := hide_ (show ([] : List Nat).length + b.length ≤ 140737488355328 from by simp; omega)
  obtain ⟨x, hx0'⟩ : ∃ x, bOr (rdBlk b) = x := ⟨_, rfl⟩
  obtain ⟨n, he0'⟩ : ∃ n, obE (rdBlk b) = n := ⟨_, rfl⟩
  have hx0 := hide_ hx0'
  have he0 := hide_ he0'
  clear hb256' hblen' hx0' he0'
  go_enter Try.func6, Try.ntmps6
  go_wp2_with ((first
    | ((with_reducible refine at_lit ?_); refine w_bempty rfl rfl ?_; intro vn wn B hB1 hBl hxn o1)
    | ((with_reducible refine at_bi ?_); refine appb _ _ rfl rfl rfl rfl o1 (hb.ext hxn) happ.out hBl ?_; intro vc wa o2 hba hga; rw [List.nil_append] at o2; have hX := hxn.trans' (hba.mono hB1); have b2 := o2.byt; clear o1 o2 hba hga hxn hB1 hBl)
    | (go_at_call 10; refine (BRead_any hb256.out hblen.out b2).mono ?_; rintro e w3 ⟨u, rfl, hx, o3⟩; rw [hx0.out, he0.out]; rw [hx0.out] at o3; have r3 := o3.recs; replace hX := hX.trans hx; clear hx b2 o3)
    | (go_at_call 23; refine (refBRead_any hb256.out hblen.out (hb.ext hX)).mono ?_; rintro e w4 ⟨u2, rfl, hx, o4⟩; rw [hx0.out, he0.out]; rw [hx0.out] at o4; have r4 := o4.recs; replace r3 := r3.ext TxR.stays hx; replace f3 := f3.ext hx; replace hX := hX.trans hx; clear hx o4)
    | ((with_reducible refine at_alloc ?_); refine w_alloc (o := ⟨some 3, _, _, _, _, _⟩) Try.stBlk rfl rfl ?_; intro g3 w5 hg3 hx3 f3)
    | ((with_reducible refine at_store ?_); refine w_astore Try.stBlk (us := [.int .i64 x.slot, .int .i64 x.miner, .int .i64 x.var, .int .i64 x.parent, u]) _ _ rfl rfl rfl rfl rfl f3 rfl rfl (blk_one r3.one') ?_; intro w6 hm f3'; replace f3 := f3'; have hx := hm.after hx3 (fun i e => e ▸ hg3); replace r3 := r3.ext TxR.stays hx; replace hX := hX.trans hx; clear hm f3' hx3 hx)
    | ((with_reducible refine at_alloc ?_); refine w_alloc (o := ⟨some 5, _, _, _, _, _⟩) Try.stBlk rfl rfl ?_; intro g5 w7 hg5 hx5 f5)
    | ((with_reducible refine at_store ?_); refine w_astore Try.stBlk (us := [.int .i64 x.slot, .int .i64 x.miner, .int .i64 x.var, .int .i64 x.parent, u2]) _ _ rfl rfl rfl rfl rfl f5 rfl rfl (blk_one r4.one') ?_; intro w8 hm f5'; replace f5 := f5'; have hx := hm.after hx5 (fun i e => e ▸ hg5); replace r3 := r3.ext TxR.stays hx; replace r4 := r4.ext TxR.stays hx; replace f3 := f3.ext hx; replace hX := hX.trans hx; clear hm f5' hx5 hx)
    | (go_at_call 11; refine (alive_any _).mono ?_; rintro e w2 ⟨rfl, hx⟩; replace r3 := r3.ext TxR.stays hx; replace r4 := r4.ext TxR.stays hx; replace f3 := f3.ext hx; replace f5 := f5.ext hx; replace hX := hX.trans hx; clear hx)
    | ((with_reducible refine at_load ?_); (try refine w_yes _ _ _ rfl rfl rfl ?_); refine w_aload Try.stBlk (.tmp 3) rfl rfl rfl f3 rfl ?_)
    | ((with_reducible refine at_load ?_); (try refine w_yes _ _ _ rfl rfl rfl ?_); refine w_aload Try.stBlk (.tmp 5) rfl rfl rfl f5 rfl ?_)
    | (go_at_call 19; refine (refBSame_any (b := x) (b2 := x) (u := u) (u2 := u2) r3 r4).mono ?_; rintro e w2 ⟨rfl, hx⟩; rw [BlkD.same_self]; replace hX := hX.trans hx; clear hx)
    | fail) <;> (try simp only [Act.put, List.setIfInBounds_toArray, List.set_cons_zero, List.set_cons_succ]))
  go_ret
  exact Keep.intro ⟨rfl, hX⟩

set_option maxRecDepth 100000 in
theorem blockReads_lifted (os : Os) (started : os.Started) (H : Type) (enc : TypeId × Value → H) :
    ReturnsInHanded {} Try.checked os 6 .any (Rows.blockReadsSpec.pre6 enc Try.prog Try.f6 Rows.blockReadsRow.domain false) (Rows.blockReadsSpec.post enc Try.prog Try.f6 false true false false) := by
  refine law_lifted (s := Rows.blockReadsSpec) (conds := Rows.blockReadsRow.domain) Try.func6 (by kernel_rfl) rfl (fun H ds h => by
      rw [show Try.f6.params.size = 1 from rfl] at h
      match ds, h with
      | [d0], _ => rfl) rfl rfl (by decide +kernel) os started H enc
    (ChangeSpec.witness6 (enc := enc) (C := Try.checked) false ⟨#[], #[.slice none 0 0], []⟩ 8 (by kernel_rfl) (by kernel_rfl) (by kernel_rfl) (by kernel_rfl)) ?_
  intro W base args ds p hval hA hsz _
  have hp : Try.f6.params.toList = [29] := rfl
  rw [hp] at hA hsz
  obtain ⟨v0, d0, rfl, rfl, h0⟩ := trodAll_one hA
  obtain ⟨l0, a0, b0, c0⟩ := arg_bytes hsz (j := 0) rfl rfl (hval 0 29 v0 rfl rfl) h0
  exact blockReads_law v0 l0 W a0 b0 c0

theorem blockReads_holds : Rows.BlockReadsSaid :=
  OpenClaim.holds_of_wide 6 Try.f6 rfl rfl rfl rfl rfl rfl rfl ⟨rfl, rfl, rfl, rfl, rfl⟩ rfl rfl rfl rfl rfl (by kernel_rfl) Try.func6 (by kernel_rfl)
    (of_decide_eq_true (by kernel_rfl)) (by unfold Func.isWrapper; first | (rw [if_pos (by decide +kernel)]; kernel_rfl) | (rw [if_neg (by decide +kernel)]; exact ⟨rfl, rfl⟩))
    (fun os started H enc _ => blockReads_lifted os started H enc)
#print axioms blockReads_holds

end Go.Proofs.Ytcjmcnepfnhnlaa
