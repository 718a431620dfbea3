/- The statement LedgerNames: nothing decided and nothing confirmed is nothing. No condition. -/
import Derived.Test.YtdoeoncmhaihbaaLgLa
import Derived.Test.YtdoeoncmhaihbaaFL
namespace Go.Proofs.Ytdoeoncmhaihbaa
set_option maxRecDepth 100000
open Go.RowKit Go.ChangeShapes Go.WideShapes Go.ChangeAt

theorem lav0 : avL [] [0, 0] (backN (TrS.path [] (TrS.tip [])) 0) = [] := by kernel_rfl
theorem lfi0 : finL [] [] = [] := by kernel_rfl
theorem lse0 : settled [] [0, 0] = 2 := by kernel_rfl
theorem lcl0 : cl [].flatten = [] := rfl
theorem recs_no17 (w : World) : Recs 1 IntR w (.slice none 0 0) [] := recs_of_sl (Sl.nil w) rfl fun i u l h => by simp at h

set_option maxRecDepth 100000 in
set_option maxHeartbeats 3200000 in
theorem ledgerNames_any (W : World) : Calls Try.prog 3 #[] W fun e w' => e = .returned (.bool true) ∧ Ext W w' := by
  refine calls_keep ?_
  have hD := hide_ (show DrOk [] from by decide)
  go_enter Try.func3, Try.ntmps3
  go_wp2_with ((first
    | (go_at_call 9; refine (CNew_any (deep := 0) (Ints.nil W) hD.out ⟨by omega, by omega⟩).mono ?_; rintro e w1 ⟨q, p, dv, H, rfl, hC, hx, hq, hH⟩; have hO : Out W (CQ H q) w1 := ⟨hx, fun k hk => hk.elim (hH k) (fun e => e ▸ hq)⟩; clear hx hq hH)
    | (go_at_call 10; refine (ledgerAlive_any _).mono ?_; rintro e w1 ⟨rfl, hx⟩; replace hC := hC.ext hx; replace hO := hO.extend hx; clear hx)
    | (go_at_call 11; refine (Clean_any (ls := []) (recs_no17 _) (by simp)).mono ?_; rintro e w1 ⟨v5, rfl, o5, hx⟩; rw [lcl0] at o5; replace o5 := o5.ints; replace hC := hC.ext hx; replace hO := hO.extend hx; clear hx)
    | (go_at_call 12; refine (Final_any (xs := []) hC (Ints.nil _) (by intro x hx; cases hx) (by simp)).mono ?_; rintro e w1 ⟨v11, rfl, o11, hx⟩; rw [lfi0] at o11; replace o11 := o11.ints; replace hC := hC.ext hx; replace hO := hO.extend hx; clear hx)
    | (go_at_call 13; refine (Avail_any (xs := [0, 0]) hC i17 (i64s_of rfl) (by simp)).mono ?_; rintro e w1 ⟨v18, rfl, o18, hx⟩; rw [lav0] at o18; replace o18 := o18.ints; replace hC := hC.ext hx; replace hO := hO.extend hx; clear hx i17)
    | (go_at_call 14; refine (Settled_any (xs := [0, 0]) hC i17 (i64s_of rfl) (by simp)).mono ?_; rintro e w1 ⟨rfl, hx⟩; rw [lse0]; replace hC := hC.ext hx; replace hO := hO.extend hx; clear hx i17)
    | ((with_reducible refine at_lit ?_); (try refine w_yes _ _ _ rfl rfl rfl ?_); refine w_new Try.elI (i64s [0, 0]) rfl rfl rfl (i64s_cells _) rfl (by omega) ?_; intro v5 w5 hx o5; have i17 : Ints w5 v5 [0, 0] := OwnI.ints (base := _) o5; replace hC := hC.ext hx; replace hO := hO.extend hx; clear hx o5)
    | ((with_reducible refine at_bi ?_); (try refine w_yes _ _ _ rfl rfl rfl ?_); refine i_len (l := []) _ rfl rfl rfl o5 ?_; clear o5)
    | ((with_reducible refine at_bi ?_); (try refine w_yes _ _ _ rfl rfl rfl ?_); refine i_len (l := []) _ rfl rfl rfl o11 ?_; clear o11)
    | ((with_reducible refine at_bi ?_); (try refine w_yes _ _ _ rfl rfl rfl ?_); refine i_len (l := []) _ rfl rfl rfl o18 ?_; clear o18)
    | fail) <;> (try simp only [Act.put, List.setIfInBounds_toArray, List.set_cons_zero, List.set_cons_succ]))
  go_ret
  exact Keep.intro ⟨rfl, hO.ext⟩

set_option maxRecDepth 100000 in
theorem ledgerNames_lifted (os : Os) (started : os.Started) (H : Type) (enc : TypeId × Value → H) :
    ReturnsInHanded {} Try.checked os 3 .any (Rows.ledgerNamesSpec.pre6 enc Try.prog Try.f3 Rows.ledgerNamesRow.domain false) (Rows.ledgerNamesSpec.post enc Try.prog Try.f3 false true false false) := by
  refine law_lifted (s := Rows.ledgerNamesSpec) (conds := Rows.ledgerNamesRow.domain) Try.func3 (by kernel_rfl) rfl (fun H ds h => by
      rw [show Try.f3.params.size = 0 from rfl] at h
      obtain rfl : ds = [] := List.eq_nil_of_length_eq_zero h
      rfl) rfl rfl (by decide +kernel) os started H enc
    (ChangeSpec.witness6 (enc := enc) (C := Try.checked) false ⟨#[], #[], []⟩ 8 (by kernel_rfl) (by kernel_rfl) (by kernel_rfl) (by kernel_rfl)) ?_
  intro W base args ds p hval hA hsz _
  obtain rfl : args = #[] := by cases args with | mk l => cases l with | nil => rfl | cons v vs => cases ds <;> exact hA.elim
  exact ledgerNames_any W

theorem ledgerNames_holds : Rows.LedgerNamesSaid :=
  OpenClaim.holds_of_wide 3 Try.f3 rfl rfl rfl rfl rfl rfl rfl ⟨rfl, rfl, rfl, rfl, rfl⟩ rfl rfl rfl rfl rfl (by kernel_rfl) Try.func3 (by kernel_rfl)
    (of_decide_eq_true (by kernel_rfl)) (by unfold Func.isWrapper; first | (rw [if_pos (by decide +kernel)]; kernel_rfl) | (rw [if_neg (by decide +kernel)]; exact ⟨rfl, rfl⟩))
    (fun os started H enc _ => ledgerNames_lifted os started H enc)
#print axioms ledgerNames_holds

end Go.Proofs.Ytdoeoncmhaihbaa
