/- The statement MsgReads: the message of any bytes is the document's. No condition. -/
import Derived.Test.YtidhhmmjiflpjaaMgLa
import Derived.Test.YtidhhmmjiflpjaaFL
namespace Go.Proofs.Ytidhhmmjiflpjaa
set_option maxRecDepth 100000
open Go.RowKit Go.ChangeShapes Go.WideShapes Go.ChangeAt

set_option maxRecDepth 100000 in
set_option maxHeartbeats 1600000 in
theorem msgReads_law (vb : Value) (b : List Nat) (W : World) (hb : Byt W vb b) (hb256' : ∀ x ∈ b, x < 256) (hblen' : b.length ≤ 140737488351232) : Calls Try.prog 5 #[vb] W fun e w' => e = .returned (.bool true) ∧ Ext W w' := by
  refine calls_keep ?_
  have hb256 := hide_ hb256'
  have hblen := hide_ (show b.length ≤ 140737488355328 from by omega)
  have happ := hide_ (show ([] : List Nat).length + b.length ≤ 140737488355328 from by simp; omega)
  obtain ⟨x, hx0'⟩ : ∃ x, mOr (rdMsg b) = x := ⟨_, rfl⟩
  obtain ⟨n, he0'⟩ : ∃ n, omE (rdMsg b) = n := ⟨_, rfl⟩
  have hself := hide_ (decide_eq_true (rfl : x = x))
  have hx0 := hide_ hx0'
  have he0 := hide_ he0'
  clear hb256' hblen' hx0' he0'
  go_enter Try.func5, Try.ntmps5
  go_wp2_with ((first
    | ((with_reducible refine at_lit ?_); refine w_bempty rfl rfl ?_; intro vn wn B hB1 hBl hxn o1)
    | ((with_reducible refine at_bi ?_); refine appb _ _ rfl rfl rfl rfl o1 (hb.ext hxn) happ.out hBl ?_; intro vc wa o2 hba hga; rw [List.nil_append] at o2; have hX := hxn.trans' (hba.mono hB1); have b2 := o2.byt; clear o1 o2 hba hga hxn hB1 hBl)
    | (go_at_call 17; refine (MRead_any hb256.out hblen.out b2).mono ?_; rintro e w3 ⟨u, rfl, hx, o3⟩; rw [hx0.out, he0.out]; rw [hx0.out] at o3; have r3 := o3.recs; replace hX := hX.trans hx; clear hx b2 o3)
    | (go_at_call 18; refine (refMRead_any hb256.out hblen.out (hb.ext hX)).mono ?_; rintro e w4 ⟨u2, rfl, hx, o4⟩; rw [hx0.out, he0.out]; rw [hx0.out] at o4; have r4 := o4.recs; replace r3 := r3.ext TxR.stays hx; replace f3 := f3.ext hx; replace hX := hX.trans hx; clear hx o4)
    | ((with_reducible refine at_alloc ?_); refine w_agalloc (o := ⟨some 3, _, _, _, _, _⟩) Try.agMsg rfl rfl ?_; intro g3 w5 hg3 hx3 f3)
    | ((with_reducible refine at_store ?_); refine w_agput Try.agMsg (us := mRow x u) (.tmp 3) _ rfl rfl rfl rfl rfl f3 rfl rfl (m_one r3.one') ?_; intro w6 hm f3'; replace f3 := f3'; have hx := hm.after hx3 (fun i e => e ▸ hg3); replace r3 := r3.ext TxR.stays hx; replace hX := hX.trans hx; clear hm f3' hx3 hx)
    | ((with_reducible refine at_alloc ?_); refine w_agalloc (o := ⟨some 5, _, _, _, _, _⟩) Try.agMsg rfl rfl ?_; intro g5 w7 hg5 hx5 f5)
    | ((with_reducible refine at_store ?_); refine w_agput Try.agMsg (us := mRow x u2) (.tmp 5) _ rfl rfl rfl rfl rfl f5 rfl rfl (m_one r4.one') ?_; intro w8 hm f5'; replace f5 := f5'; have hx := hm.after hx5 (fun i e => e ▸ hg5); replace r3 := r3.ext TxR.stays hx; replace r4 := r4.ext TxR.stays hx; replace f3 := f3.ext hx; replace hX := hX.trans hx; clear hm f5' hx5 hx)
    | (go_at_call 9; refine (msgAlive_any _).mono ?_; rintro e w2 ⟨rfl, hx⟩; replace r3 := r3.ext TxR.stays hx; replace r4 := r4.ext TxR.stays hx; replace f3 := f3.ext hx; replace f5 := f5.ext hx; replace hX := hX.trans hx; clear hx)
    | ((with_reducible refine at_load ?_); (try refine w_yes _ _ _ rfl rfl rfl ?_); refine w_loadN Try.stMsg (.tmp 3) (mRow x u) rfl rfl rfl f3 rfl mself_at ?_)
    | ((with_reducible refine at_load ?_); (try refine w_yes _ _ _ rfl rfl rfl ?_); refine w_loadN Try.stMsg (.tmp 5) (mRow x u2) rfl rfl rfl f5 rfl mself_at ?_)
    | (go_at_call 15; refine (refMSame_any (a := x) (b := x) (u1 := u) (u2 := u2) r3 r4).mono ?_; rintro e w2 ⟨rfl, hx⟩; rw [hself.out]; replace hX := hX.trans hx; clear hx)
    | fail) <;> (try simp only [Act.put, List.setIfInBounds_toArray, List.set_cons_zero, List.set_cons_succ]))
  go_ret
  exact Keep.intro ⟨rfl, hX⟩

set_option maxRecDepth 100000 in
theorem msgReads_lifted (os : Os) (started : os.Started) (H : Type) (enc : TypeId × Value → H) :
    ReturnsInHanded {} Try.checked os 5 .any (Rows.msgReadsSpec.pre6 enc Try.prog Try.f5 Rows.msgReadsRow.domain false) (Rows.msgReadsSpec.post enc Try.prog Try.f5 false true false false) := by
  refine law_lifted (s := Rows.msgReadsSpec) (conds := Rows.msgReadsRow.domain) Try.func5 (by kernel_rfl) rfl (fun H ds h => by
      rw [show Try.f5.params.size = 1 from rfl] at h
      match ds, h with
      | [d0], _ => rfl) rfl rfl (by decide +kernel) os started H enc
    (ChangeSpec.witness6 (enc := enc) (C := Try.checked) false ⟨#[], #[.slice none 0 0], []⟩ 8 (by kernel_rfl) (by kernel_rfl) (by kernel_rfl) (by kernel_rfl)) ?_
  intro W base args ds p hval hA hsz _
  have hp : Try.f5.params.toList = [30] := rfl
  rw [hp] at hA hsz
  obtain ⟨v0, d0, rfl, rfl, h0⟩ := trodAll_one hA
  obtain ⟨l0, a0, b0, c0⟩ := arg_bytes hsz (j := 0) rfl rfl (hval 0 30 v0 rfl rfl) h0
  exact msgReads_law v0 l0 W a0 b0 c0

theorem msgReads_holds : Rows.MsgReadsSaid :=
  OpenClaim.holds_of_wide 5 Try.f5 rfl rfl rfl rfl rfl rfl rfl ⟨rfl, rfl, rfl, rfl, rfl⟩ rfl rfl rfl rfl rfl (by kernel_rfl) Try.func5 (by kernel_rfl)
    (of_decide_eq_true (by kernel_rfl)) (by unfold Func.isWrapper; first | (rw [if_pos (by decide +kernel)]; kernel_rfl) | (rw [if_neg (by decide +kernel)]; exact ⟨rfl, rfl⟩))
    (fun os started H enc _ => msgReads_lifted os started H enc)
#print axioms msgReads_holds

end Go.Proofs.Ytidhhmmjiflpjaa
