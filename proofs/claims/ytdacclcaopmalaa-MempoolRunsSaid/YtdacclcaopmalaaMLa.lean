/- The chapter's example; transactions added one after the other; what the statement MempoolNames asks. -/
import Derived.Test.YtdacclcaopmalaaMemC
import Derived.Test.YtdacclcaopmalaaMemG
namespace Go.Proofs.Ytdacclcaopmalaa
set_option maxRecDepth 100000
open Go.RowKit Go.ChangeShapes Go.WideShapes Go.ChangeAt

def xA : TxD := ⟨1, 1⟩
def xB : TxD := ⟨2, 5⟩
def xC : TxD := ⟨3, 3⟩
theorem padA : Mem.add [] ⟨1, 1⟩ = ([xA], 0) := by kernel_rfl
theorem padB : Mem.add [xA] ⟨2, 5⟩ = ([xB, xA], 0) := by kernel_rfl
theorem padC : Mem.add [xB, xA] ⟨3, 3⟩ = ([xB, xC, xA], 0) := by kernel_rfl
theorem padD : Mem.add [xB, xC, xA] ⟨1, 9⟩ = ([xB, xC, xA], 91) := by kernel_rfl
theorem padZ : Mem.add [] ⟨0, 0⟩ = ([], 61) := by kernel_rfl
theorem ppkA : Mem.pick [xB, xC, xA] 2 [] = [xB, xC] := by kernel_rfl
theorem pokA : Mem.Ok [xA] := by have h := Mem.Ok.add Mem.Ok.nil ⟨1, 1⟩; rw [padA] at h; exact h
theorem pokB : Mem.Ok [xB, xA] := by have h := Mem.Ok.add pokA ⟨2, 5⟩; rw [padB] at h; exact h
theorem pokC : Mem.Ok [xB, xC, xA] := by have h := Mem.Ok.add pokB ⟨3, 3⟩; rw [padC] at h; exact h
theorem nilI (w : World) : Ints w (.slice none 0 0) [] := (OwnI.nil 0 w).ints
theorem raw_sm {a b : Int} (h1 : 0 ≤ a ∧ a ≤ 9) (h2 : 0 ≤ b ∧ b ≤ 9) : TxD.Raw ⟨a, b⟩ := ⟨by simp only; omega, by simp only; omega⟩

set_option maxRecDepth 100000 in
set_option maxHeartbeats 3200000 in
theorem poolAlive_any (W : World) : Calls Try.prog 10 #[] W fun e w' => e = .returned (.bool true) ∧ Ext W w' := by
  refine calls_keep ?_
  have tok1 : True := trivial
  have tok2 : True := trivial
  have tok3 : True := trivial
  go_enter Try.func10, Try.ntmps10
  go_wp2_with ((first
    | (go_at_call 11; refine (PNew_any (w := W)).mono ?_; rintro e w1 ⟨p, rfl, hP, hX, hp⟩; have hO : Out W (fun k => k = p) w1 := ⟨hX, fun k hk => hk ▸ hp⟩; clear hX hp)
    | (go_at_call 13; have _t := tok1; refine (PAdd_any (t := ⟨1, 1⟩) hP Mem.Ok.nil (raw_sm (by omega) (by omega))).mono ?_; rintro e w2 ⟨F2, rfl, hP2, hU⟩; rw [padA] at hP2; rw [padA]; replace hP := hP2; replace hO := hO.upd hU; clear hU; clear hP2 tok1)
    | (go_at_call 13; have _t := tok2; refine (PAdd_any (t := ⟨2, 5⟩) hP pokA (raw_sm (by omega) (by omega))).mono ?_; rintro e w2 ⟨F3, rfl, hP2, hU⟩; rw [padB] at hP2; rw [padB]; replace hP := hP2; replace hO := hO.upd hU; clear hU; clear hP2 tok2)
    | (go_at_call 13; have _t := tok3; refine (PAdd_any (t := ⟨3, 3⟩) hP pokB (raw_sm (by omega) (by omega))).mono ?_; rintro e w2 ⟨F4, rfl, hP2, hU⟩; rw [padC] at hP2; rw [padC]; replace hP := hP2; replace hO := hO.upd hU; clear hU; clear hP2 tok3)
    | (go_at_call 13; refine (PAdd_any (t := ⟨1, 9⟩) hP pokC (raw_sm (by omega) (by omega))).mono ?_; rintro e w2 ⟨F5, rfl, hP2, hU⟩; rw [padD] at hP2; rw [padD]; replace hP := hP2; replace hO := hO.upd hU; clear hU; clear hP2)
    | (go_at_call 18; refine (PPick_any (many := 2) (skip := []) hP (by decide) (nilI _)).mono ?_; rintro e w2 ⟨v2, rfl, o2, hx⟩; rw [ppkA] at o2; replace o2 := o2.recs; replace hP := hP.ext hx; replace hO := hO.extend hx; clear hx)
    | (go_at_call 17; refine (Same_any (l := [xB, xC]) (m := [xB, xC]) o2 o3).mono ?_; rintro e w5 ⟨rfl, hx⟩; rw [decide_eq_true rfl]; replace hP := hP.ext hx; replace hO := hO.extend hx; clear hx)
    | ((with_reducible refine at_sbuild ?_); (try refine w_yes _ _ _ rfl rfl rfl ?_); refine w_sbuild Try.stTx [.int .i64 1, .int .i64 1] rfl rfl rfl (by intro p hp; simp at hp; rcases hp with rfl | rfl <;> exact ⟨by decide, rfl⟩) ?_)
    | ((with_reducible refine at_sbuild ?_); (try refine w_yes _ _ _ rfl rfl rfl ?_); refine w_sbuild Try.stTx [.int .i64 2, .int .i64 5] rfl rfl rfl (by intro p hp; simp at hp; rcases hp with rfl | rfl <;> exact ⟨by decide, rfl⟩) ?_)
    | ((with_reducible refine at_sbuild ?_); (try refine w_yes _ _ _ rfl rfl rfl ?_); refine w_sbuild Try.stTx [.int .i64 3, .int .i64 3] rfl rfl rfl (by intro p hp; simp at hp; rcases hp with rfl | rfl <;> exact ⟨by decide, rfl⟩) ?_)
    | ((with_reducible refine at_sbuild ?_); (try refine w_yes _ _ _ rfl rfl rfl ?_); refine w_sbuild Try.stTx [.int .i64 1, .int .i64 9] rfl rfl rfl (by intro p hp; simp at hp; rcases hp with rfl | rfl <;> exact ⟨by decide, rfl⟩) ?_)
    | ((with_reducible refine at_lit ?_); refine w_nnew Try.elTxN [xB.row, xC.row] rfl rfl rfl (by simp [TxD.row]) rfl (by omega) ?_; intro v3 w6 B hB1 hB2 hx6 hn6; have o3 := (OwnT.of (lo := 0) (l := [xB, xC]) hn6 (by intro t ht; simp at ht; rcases ht with rfl | rfl <;> exact raw_sm (by omega) (by omega)) (fun k _ => Nat.zero_le k)).recs; replace o2 := o2.ext TxR.stays hx6; replace hP := hP.ext hx6; replace hO := hO.extend hx6; clear hn6 hB1 hB2 hx6)
    | fail) <;> (try simp only [Act.put, List.setIfInBounds_toArray, List.set_cons_zero, List.set_cons_succ]))
  go_ret
  exact Keep.intro ⟨rfl, hO.ext⟩

set_option maxRecDepth 100000 in
set_option maxHeartbeats 3200000 in
theorem mempoolNames_any (W : World) : Calls Try.prog 3 #[] W fun e w' => e = .returned (.bool true) ∧ Ext W w' := by
  refine calls_keep ?_
  have tok1 : True := trivial
  go_enter Try.func3, Try.ntmps3
  go_wp2_with ((first
    | (go_at_call 10; refine (poolAlive_any _).mono ?_; rintro e w2 ⟨rfl, hX⟩)
    | (go_at_call 11; have _t := tok1; refine (PNew_any (w := _)).mono ?_; rintro e w1 ⟨p, rfl, hP, hx, hp⟩; replace hX := hX.trans hx; clear hx hp tok1)
    | (go_at_call 12; refine (PList_any hP (by decide)).mono ?_; rintro e w3 ⟨v3, rfl, o3, hx⟩; replace o3 := o3.recs; replace hX := hX.trans hx; clear hx hP)
    | ((with_reducible refine at_bi ?_); (try refine w_yes _ _ _ rfl rfl rfl ?_); refine w_rlen Try.elTx _ rfl rfl rfl o3 ?_)
    | (go_at_call 11; refine (PNew_any (w := _)).mono ?_; rintro e w1 ⟨p2, rfl, hP2, hx, hp⟩; have hO : Out W (fun k => k = p2) w1 := ⟨hX.trans hx, fun k hk => hk ▸ Nat.le_trans hX.size hp⟩; clear hx hp hX)
    | ((with_reducible refine at_sbuild ?_); (try refine w_yes _ _ _ rfl rfl rfl ?_); refine w_sbuild Try.stTx [.int .i64 0, .int .i64 0] rfl rfl rfl (by intro p hp; simp at hp) ?_)
    | (go_at_call 13; refine (PAdd_any (t := ⟨0, 0⟩) hP2 Mem.Ok.nil (raw_sm (by omega) (by omega))).mono ?_; rintro e w2 ⟨F2, rfl, hP3, hU⟩; rw [padZ]; replace hO := hO.upd hU; clear hU; clear hP3 hP2)
    | fail) <;> (try simp only [Act.put, List.setIfInBounds_toArray, List.set_cons_zero, List.set_cons_succ]))
  go_ret
  exact Keep.intro ⟨rfl, hO.ext⟩
end Go.Proofs.Ytdacclcaopmalaa
