/- The statement TagNames: the chapter's example; nothing has a mark, too. No condition. -/
import Derived.Test.YtdnppmpgpkpapaaTagRef
import Derived.Test.YtdnppmpgpkpapaaLift
import Derived.Lib.SlBytesConst
namespace Go.Proofs.Ytdnppmpgpkpapaa
open Go.RowKit Go.ChangeShapes Go.WideShapes Go.ChangeAt

theorem Of_at {K : Int} {v : Value} (key : BitVec 64) (ls : List (List Nat)) (w : World) (hK : K = (key.toNat : Int)) (hb : ∀ l ∈ ls, ∀ x ∈ l, x < 256) (h : Parts w v ls) :
    Calls Try.prog 10 #[.int .u64 K, v] w fun e w' => e = .returned (.int .u64 ((markB key ls.flatten).toNat : Int)) ∧ w = w' := by
  subst hK; exact Of_any key v ls w hb h

theorem Right_at {K : Int} (key m : BitVec 64) (v : Value) (l : List Nat) (w : World) (hK : K = (key.toNat : Int)) (hb : ∀ x ∈ l, x < 256) (hv : Byt w v l) (b : Bool) (hbool : decide (markB key l = m) = b) :
    Calls Try.prog 11 #[.int .u64 K, .int .u64 (m.toNat : Int), v] w fun e w' => e = .returned (.bool b) ∧ Ext w w' := by
  subst hK; exact Right_any key m v l w hb hv b hbool

theorem run_convert_lit (w : World) (C : Array Value) (n c N : Nat) (hN : N = w.heap.size) :
    (convert 26 26 (.slice (some ⟨N, 0, none⟩) n c)).run Try.prog (w.alloc (.cells C 5)) = .ok (.slice (some ⟨N, 0, none⟩) n c) (w.alloc (.cells C 5 (C.size, C.size + 1))) := by
  subst hN; exact Lib.run_convert_bytes_const (P := Try.prog) w 26 5 C n c Try.underlying26 Try.underlying5

theorem byt_x (w : World) (fz : Nat × Nat) {N : Nat} (hN : N = w.heap.size) : Byt (w.alloc (.cells #[.int .u8 120] 5 fz)) (.slice (some ⟨N, 0, none⟩) 1 1) [120] := by subst hN; exact byt_lit [120] (by simp) rfl

set_option maxRecDepth 100000 in
set_option maxHeartbeats 800000 in
theorem tagNames_any (w : World) : Calls Try.prog 3 #[] w fun e w' => e = .returned (.bool true) ∧ Ext w w' := by
  refine calls_keep ?_
  have k1 := hide_ (show (keyB 0).toNat = 11400714819323198485 from by decide +kernel)
  have k2 := hide_ (show (markB 0#64 ([] : List (List Nat)).flatten).toNat = 14695981032226079745 from by decide +kernel)
  obtain ⟨m, hm⟩ : ∃ m, m = markB 5#64 [[120]].flatten := ⟨_, rfl⟩
  have Hm := hide_ hm
  have hr : decide (markB 5#64 [120] = m) = true := by rw [hm]; rfl
  have Hr := hide_ hr
  clear hm hr
  have kc := run_convert_lit
  have h0 : Hid ((0 : Int) = ((0#64).toNat : Int)) := hide_ rfl
  have h5 : Hid ((5 : Int) = ((5#64).toNat : Int)) := hide_ rfl
  go_enter Try.func3, Try.ntmps3
  go_wp2_with (first
    | (go_at_call 9; refine (Key_any 0 _).mono ?_; rintro e w1 ⟨rfl, rfl⟩; rw [k1.out])
    | (go_at_call 10; ((with_reducible refine (Of_at 0#64 [] _ h0.out (by simp) (Parts.nil _)).mono ?_); rintro e w1 ⟨rfl, rfl⟩; rw [k2.out]))
    | (go_at_call 10; ((with_reducible refine (Of_at 5#64 [[120]] _ h5.out (by simp) (parts_one (by simp) (byt_x _ _ rfl))).mono ?_); rintro e w1 ⟨rfl, rfl⟩; rw [← Hm.out]))
    | (go_at_call 11; ((with_reducible refine (Right_at 5#64 m _ [120] _ h5.out (by simp) (byt_x _ _ (by simp)) true Hr.out).mono ?_); rintro e w1 ⟨rfl, hx1⟩)))
  go_ret
  exact Keep.intro ⟨rfl, (((Ext.refl _).alloc _).alloc _).trans (((Ext.refl _).alloc _).trans hx1)⟩

set_option maxRecDepth 100000 in
theorem tagNames_lifted (os : Os) (started : os.Started) (H : Type) (enc : TypeId × Value → H) :
    ReturnsInHanded {} Try.checked os 3 .any (Rows.tagNamesSpec.pre6 enc Try.prog Try.f3 Rows.tagNamesRow.domain false) (Rows.tagNamesSpec.post enc Try.prog Try.f3 false true false false) := by
  refine law_lifted (s := Rows.tagNamesSpec) (conds := Rows.tagNamesRow.domain) Try.func3 (by kernel_rfl) rfl (fun H ds h => by
      rw [show Try.f3.params.size = 0 from rfl] at h
      obtain rfl : ds = [] := List.eq_nil_of_length_eq_zero h
      rfl) rfl rfl (by decide +kernel) os started H enc
    (ChangeSpec.witness6 (enc := enc) (C := Try.checked) false ⟨#[], #[], []⟩ 8 (by kernel_rfl) (by kernel_rfl) (by kernel_rfl) (by kernel_rfl)) ?_
  intro W base args ds p hval hA hsz _
  obtain rfl : args = #[] := by cases args with | mk l => cases l with | nil => rfl | cons v vs => cases ds <;> exact hA.elim
  exact tagNames_any W

theorem tagNames_holds : Rows.TagNamesSaid :=
  OpenClaim.holds_of_wide 3 Try.f3 rfl rfl rfl rfl rfl rfl rfl ⟨rfl, rfl, rfl, rfl, rfl⟩ rfl rfl rfl rfl rfl (by kernel_rfl) Try.func3 (by kernel_rfl)
    (of_decide_eq_true (by kernel_rfl)) (by unfold Func.isWrapper; first | (rw [if_pos (by decide +kernel)]; kernel_rfl) | (rw [if_neg (by decide +kernel)]; exact ⟨rfl, rfl⟩))
    (fun os started H enc _ => tagNames_lifted os started H enc)
#print axioms tagNames_holds

end Go.Proofs.Ytdnppmpgpkpapaa
