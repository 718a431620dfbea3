/- The statement TagMarks: the mark on any bytes, and whether any mark is it; they stay. No condition. -/
import Derived.Test.YtdnppmpgpkpapaaTNames
namespace Go.Proofs.Ytdnppmpgpkpapaa
open Go.RowKit Go.ChangeShapes Go.WideShapes Go.ChangeAt

set_option maxRecDepth 100000 in
set_option maxHeartbeats 800000 in
theorem tagMarks_bv (key m : BitVec 64) (v : Value) (l : List Nat) (W : World) (hv : Byt W v l) (hl : ∀ x ∈ l, x < 256) (hn : l.length ≤ 140737488355328) :
    Calls Try.prog 5 #[.int .u64 (key.toNat : Int), .int .u64 (m.toNat : Int), v] W fun e w' => e = .returned (.bool true) ∧ Ext W w' := by
  refine calls_keep ?_
  have hfl := hide_ (show [l].flatten = l from by simp)
  have hb0 : ([] : List Nat).length + l.length ≤ 140737488355328 := by simpa using hn
  have Hl := hide_ hl
  have Hl1 := hide_ (show ∀ l' ∈ [l], ∀ x ∈ l', x < 256 from by simpa using hl)
  obtain ⟨k, hk⟩ : ∃ k, k = markB key l := ⟨_, rfl⟩
  have Hk := hide_ hk
  have hr := hide_ (show decide (markB key l = m) = ((((m.toNat : Nat) : Int)) == ((k.toNat : Nat) : Int)) from by
    rw [bv_beq, hk]; exact decide_eq_decide.2 eq_comm)
  clear hk hl
  go_enter Try.func5, Try.ntmps5
  go_wp2_with (first
    | (go_at_call 3; refine (tagNames_any _).mono ?_; rintro e w1 ⟨rfl, hx1⟩; have K1 := H1.ext hx1; have K2 := H2.ext hx1; have hX := hx0.trans hx1)
    | (at_builtin; refine appb (.tmp 9) (.tmp 10) rfl rfl rfl rfl own_empty (hv.ext ((Ext.refl _).alloc _)) hb0 (by simp) ?_; intro v2 w2 ho2 hb2 hg2; have H1 := ho2.byt; have hx0 := ext_alloc_below hb2; have H2 := hv.ext hx0; clear ho2 hb2 hg2)
    | (go_at_call 13; refine (RefOf_any key _ l _ Hl.out H2).mono ?_; rintro e w3 ⟨rfl, rfl⟩; rw [← Hk.out])
    | (refine w_yes _ _ _ rfl rfl rfl ?_; refine w_build Try.elBB 1 _ [v2] rfl rfl rfl (one1 K1.oneCell) rfl (by omega) ?_)
    | (go_at_call 10; refine (Of_any key _ [l] _ Hl1.out (parts_one rfl K1)).mono ?_; rintro e w1 ⟨rfl, rfl⟩; rw [hfl.out, ← Hk.out])
    | (go_at_call 11; refine (Right_any key m v2 l _ Hl.out (K1.ext ((Ext.refl _).alloc _)) _ hr.out).mono ?_; rintro e w4 ⟨rfl, hx4⟩; have L1 := K1.ext (((Ext.refl _).alloc _).trans hx4); have L2 := K2.ext (((Ext.refl _).alloc _).trans hx4))
    | (refine w_yes _ _ _ rfl rfl rfl ?_; refine w_str _ rfl rfl rfl (by assumption) ?_))
  go_ret
  exact Keep.intro ⟨rfl, hX.trans (((Ext.refl _).alloc _).trans hx4)⟩

theorem tagMarks_law (a b : Nat) (v : Value) (l : List Nat) (W : World) (ha : a < 18446744073709551616) (hb : b < 18446744073709551616) (hv : Byt W v l) (hl : ∀ x ∈ l, x < 256) (hn : l.length ≤ 140737488351232) :
    Calls Try.prog 5 #[.int .u64 a, .int .u64 b, v] W fun e w' => e = .returned (.bool true) ∧ Ext W w' := by
  have h := tagMarks_bv (BitVec.ofNat 64 a) (BitVec.ofNat 64 b) v l W hv hl (by omega)
  rw [BitVec.toNat_ofNat, BitVec.toNat_ofNat, Nat.mod_eq_of_lt ha, Nat.mod_eq_of_lt hb] at h
  exact h

set_option maxRecDepth 100000 in
theorem tagMarks_lifted (os : Os) (started : os.Started) (H : Type) (enc : TypeId × Value → H) :
    ReturnsInHanded {} Try.checked os 5 .any (Rows.tagMarksSpec.pre6 enc Try.prog Try.f5 Rows.tagMarksRow.domain false) (Rows.tagMarksSpec.post enc Try.prog Try.f5 false true false false) := by
  refine law_lifted (s := Rows.tagMarksSpec) (conds := Rows.tagMarksRow.domain) Try.func5 (by kernel_rfl) rfl (fun H ds h => by
      rw [show Try.f5.params.size = 3 from rfl] at h
      match ds, h with
      | [d0, d1, d2], _ => rfl) rfl rfl (by decide +kernel) os started H enc
    (ChangeSpec.witness6 (enc := enc) (C := Try.checked) false ⟨#[], #[.int .u64 0, .int .u64 0, .slice none 0 0], []⟩ 8 (by kernel_rfl) (by kernel_rfl) (by kernel_rfl) (by kernel_rfl)) ?_
  intro W base args ds p hval hA hsz _
  have hp : Try.f5.params.toList = [22, 22, 26] := rfl
  rw [hp] at hA hsz
  obtain ⟨v0, v1, v2, d0, d1, d2, p0, p1, p2, rfl, rfl, rfl, h0, h1, h2⟩ := trodAll_three hA
  obtain ⟨a0, rfl, b0⟩ := arg_u64 (hval 0 22 v0 rfl rfl) h0
  obtain ⟨a1, rfl, b1⟩ := arg_u64 (hval 1 22 v1 rfl rfl) h1
  obtain ⟨l2, a2, b2, c2⟩ := arg_bytes hsz (j := 2) rfl rfl (hval 2 26 v2 rfl rfl) h2
  exact tagMarks_law a0 a1 v2 l2 W b0 b1 a2 b2 c2

theorem tagMarks_holds : Rows.TagMarksSaid :=
  OpenClaim.holds_of_wide 5 Try.f5 rfl rfl rfl rfl rfl rfl rfl ⟨rfl, rfl, rfl, rfl, rfl⟩ rfl rfl rfl rfl rfl (by kernel_rfl) Try.func5 (by kernel_rfl)
    (of_decide_eq_true (by kernel_rfl)) (by unfold Func.isWrapper; first | (rw [if_pos (by decide +kernel)]; kernel_rfl) | (rw [if_neg (by decide +kernel)]; exact ⟨rfl, rfl⟩))
    (fun os started H enc _ => tagMarks_lifted os started H enc)
#print axioms tagMarks_holds

end Go.Proofs.Ytdnppmpgpkpapaa
