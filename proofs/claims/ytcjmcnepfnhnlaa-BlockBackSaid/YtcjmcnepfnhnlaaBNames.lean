/- The statement BlockNames: the error and the limits have their numbers. No condition. -/
import Derived.Test.YtcjmcnepfnhnlaaBk2
import Derived.Test.YtcjmcnepfnhnlaaBk3
import Derived.Test.YtcjmcnepfnhnlaaFL
namespace Go.Proofs.Ytcjmcnepfnhnlaa
open Go.RowKit Go.ChangeShapes Go.WideShapes Go.ChangeAt

theorem Recs.nilT (w : World) : Recs 2 TxR w (.slice none 0 0) [] := (OwnT.nil 0 w).recs
theorem one_right : (⟨1, 2, 3, 0, []⟩ : BlkD).Right := ⟨by simp, by simp, by simp, .inl rfl, ⟨by simp, by simp, by simp⟩⟩
theorem Name1 (w : World) : Calls Try.prog 16 #[.agg #[.int .i64 1, .int .i64 2, .int .i64 3, .int .i64 0, .slice none 0 0]] w fun e w' => e = .returned (.int .i64 66051) ∧ Ext w w' := by
  have h := BName_any (w := w) (u := .slice none 0 0) (b := ⟨1, 2, 3, 0, []⟩) (Recs.nilT w) ⟨by simp, by simp⟩
  rw [show (⟨1, 2, 3, 0, []⟩ : BlkD).name = 66051 from if_pos one_right] at h; exact h
theorem Slot1 (w : World) : Calls Try.prog 21 #[.int .i64 66051] w fun e w' => e = .returned (.int .i64 1) ∧ Ext w w' := by
  have h := Slot_any 66051 (by omega) (by omega) w
  rw [show nmS 66051 = 1 from by decide] at h; exact h
theorem Miner1 (w : World) : Calls Try.prog 22 #[.int .i64 66051] w fun e w' => e = .returned (.int .i64 2) ∧ Ext w w' := by
  have h := Miner_any 66051 (by omega) (by omega) w
  rw [show nmM 66051 = 2 from by decide] at h; exact h
theorem Right1 (w : World) : Calls Try.prog 14 #[.agg #[.int .i64 1, .int .i64 2, .int .i64 3, .int .i64 0, .slice none 0 0]] w fun e w' => e = .returned (.bool true) ∧ Ext w w' := by
  have h := BRight_any (w := w) (u := .slice none 0 0) (b := ⟨1, 2, 3, 0, []⟩) (Recs.nilT w) ⟨by simp, by simp⟩
  rw [decide_eq_true one_right] at h; exact h
theorem Right0 (w : World) : Calls Try.prog 14 #[.agg #[.int .i64 0, .int .i64 0, .int .i64 0, .int .i64 0, .slice none 0 0]] w fun e w' => e = .returned (.bool false) ∧ Ext w w' := by
  have h := BRight_any (w := w) (u := .slice none 0 0) (b := BlkD.zero) (Recs.nilT w) ⟨by simp [BlkD.zero], by simp [BlkD.zero]⟩
  rw [decide_eq_false BlkD.zero_no] at h; exact h

section
variable {w : World} {v : Value} {b : List Nat} {x : BlkD}
theorem BRead_no (h : rdBlk b = none) (hb : ∀ x ∈ b, x < 256) (hlen : b.length ≤ 140737488355328) (hv : Byt w v b) : Calls Try.prog 10 #[v] w fun e w' => ∃ u, e = .returned (.tuple #[.agg #[.int .i64 0, .int .i64 0, .int .i64 0, .int .i64 0, u], .int .i64 71]) ∧ Ext w w' ∧ OwnT w.heap.size w' u [] := by
  refine (BRead_any hb hlen hv).mono ?_
  rintro e w' ⟨u, rfl, h1, h2⟩
  rw [h] at h2 ⊢
  exact ⟨u, rfl, h1, h2⟩
theorem BRead_yes (h : rdBlk b = some x) (hb : ∀ x ∈ b, x < 256) (hlen : b.length ≤ 140737488355328) (hv : Byt w v b) : Calls Try.prog 10 #[v] w fun e w' => ∃ u, e = .returned (.tuple #[.agg #[.int .i64 x.slot, .int .i64 x.miner, .int .i64 x.var, .int .i64 x.parent, u], .int .i64 0]) ∧ Ext w w' ∧ OwnT w.heap.size w' u x.txs := by
  refine (BRead_any hb hlen hv).mono ?_
  rintro e w' ⟨u, rfl, h1, h2⟩
  rw [h] at h2 ⊢
  exact ⟨u, rfl, h1, h2⟩
end

set_option maxRecDepth 100000 in
set_option maxHeartbeats 800000 in
theorem alive_any (W : World) : Calls Try.prog 11 #[] W fun e w' => e = .returned (.bool true) ∧ Ext W w' := by
  refine calls_keep ?_
  go_enter Try.func11, Try.ntmps11
  go_wp2_with ((first
    | ((with_reducible refine at_sbuild ?_); refine w_sbuild Try.stBlk [.int .i64 1, .int .i64 2, .int .i64 3, .int .i64 0, .slice none 0 0] rfl rfl rfl (by intro p hp; simp at hp; rcases hp with rfl | rfl | rfl <;> exact ⟨by decide, rfl⟩) ?_)
    | ((with_reducible refine at_alloc ?_); refine w_alloc Try.stBlk rfl rfl ?_; intro g1 w1 hg1 hX f1)
    | ((with_reducible refine at_store ?_); refine w_astore Try.stBlk (us := [.int .i64 1, .int .i64 2, .int .i64 3, .int .i64 0, .slice none 0 0]) _ _ rfl rfl rfl rfl rfl f1 rfl rfl (blk_one rfl) ?_; intro w2 hm f1'; replace f1 := f1'; replace hX := hm.after hX (fun i e => e ▸ hg1); clear hm f1')
    | (go_at_call 16; ((with_reducible refine (Name1 _).mono ?_); rintro e w3 ⟨rfl, hx⟩; (try replace f1 := f1.ext hx); replace hX := hX.trans hx; clear hx))
    | (go_at_call 21; ((with_reducible refine (Slot1 _).mono ?_); rintro e w4 ⟨rfl, hx⟩; (try replace f1 := f1.ext hx); replace hX := hX.trans hx; clear hx))
    | (go_at_call 22; ((with_reducible refine (Miner1 _).mono ?_); rintro e w5 ⟨rfl, hx⟩; (try replace f1 := f1.ext hx); replace hX := hX.trans hx; clear hx))
    | (go_at_call 14; ((with_reducible refine (Right1 _).mono ?_); rintro e w6 ⟨rfl, hx⟩; (try replace f1 := f1.ext hx); replace hX := hX.trans hx; clear hx))
    | (go_at_call 14; ((with_reducible refine (Right0 _).mono ?_); rintro e w7 ⟨rfl, hx⟩; (try replace f1 := f1.ext hx); replace hX := hX.trans hx; clear hx))
    | ((with_reducible refine at_load ?_); (try refine w_yes _ _ _ rfl rfl rfl ?_); refine w_aload Try.stBlk _ rfl rfl rfl f1 rfl ?_)
    | ((with_reducible refine at_sbuild ?_); (try refine w_yes _ _ _ rfl rfl rfl ?_); refine w_sbuild Try.stBlk [.int .i64 0, .int .i64 0, .int .i64 0, .int .i64 0, .slice none 0 0] rfl rfl rfl (by intro p hp; simp at hp) ?_)
    | fail) <;> (try simp only [Act.put, List.setIfInBounds_toArray, List.set_cons_zero, List.set_cons_succ]))
  go_ret
  exact Keep.intro ⟨rfl, hX⟩
theorem aliveR (w : World) : Calls Try.prog 11 #[] w fun e w' => ∃ v', e = .returned v' ∧ Ext w w' ∧ Sp.p (.val (.bool true)) v' w' := by
  refine (alive_any w).mono ?_
  rintro e w' ⟨rfl, hx⟩
  exact ⟨_, rfl, hx, rfl⟩
theorem retR {f : FuncId} {args : Array Value} {w : World} {u : Value} (h : Calls Try.prog f args w fun e w' => e = .returned u ∧ Ext w w') : Calls Try.prog f args w fun e w' => ∃ v', e = .returned v' ∧ Ext w w' ∧ Sp.p (.val u) v' w' := by
  refine h.mono ?_
  rintro e w' ⟨rfl, hx⟩
  exact ⟨_, rfl, hx, rfl⟩

set_option maxRecDepth 100000 in
set_option maxHeartbeats 800000 in
theorem blockNames_any (W : World) : Calls Try.prog 3 #[] W fun e w' => e = .returned (.bool true) ∧ Ext W w' := by
  refine calls_keep ?_
  have hb := Byt.nil W
  have h0 := hide_ (show ∀ x ∈ ([] : List Nat), x < 256 from by simp)
  have hr := hide_ (show rdBlk [] = none from rdBlk_c1 (rns_nil 4 (by omega)))
  go_enter Try.func3, Try.ntmps3
  go_wp2_with ((first
    | (go_at_call 10; refine (BRead_no hr.out h0.out (by simp) hb).mono ?_; rintro e w1 ⟨u, rfl, hX, o1⟩)
    | (go_at_call 11; refine (alive_any _).mono ?_; rintro e w2 ⟨rfl, hx⟩; replace hX := hX.trans hx; clear hx)
    | ((with_reducible refine at_alloc ?_); refine w_alloc Try.stBlk rfl rfl ?_; intro g1 w3 hg1 hx3 f1; replace o1 := o1.ext hx3)
    | ((with_reducible refine at_store ?_); refine w_astore Try.stBlk (us := [.int .i64 0, .int .i64 0, .int .i64 0, .int .i64 0, u]) _ _ rfl rfl rfl rfl rfl f1 rfl rfl (blk_one o1.recs.one') ?_; intro w4 hm4 f4; replace hX := hX.trans (hm4.after hx3 (fun i e => e ▸ hg1)); clear f4 hm4 hx3 f1 o1)
    | fail) <;> (try simp only [Act.put, List.setIfInBounds_toArray, List.set_cons_zero, List.set_cons_succ]))
  go_ret
  exact Keep.intro ⟨rfl, hX⟩

set_option maxRecDepth 100000 in
theorem blockNames_lifted (os : Os) (started : os.Started) (H : Type) (enc : TypeId × Value → H) :
    ReturnsInHanded {} Try.checked os 3 .any (Rows.blockNamesSpec.pre6 enc Try.prog Try.f3 Rows.blockNamesRow.domain false) (Rows.blockNamesSpec.post enc Try.prog Try.f3 false true false false) := by
  refine law_lifted (s := Rows.blockNamesSpec) (conds := Rows.blockNamesRow.domain) Try.func3 (by kernel_rfl) rfl (fun H ds h => by
      rw [show Try.f3.params.size = 0 from rfl] at h
      obtain rfl : ds = [] := List.eq_nil_of_length_eq_zero h
      rfl) rfl rfl (by decide +kernel) os started H enc
    (ChangeSpec.witness6 (enc := enc) (C := Try.checked) false ⟨#[], #[], []⟩ 8 (by kernel_rfl) (by kernel_rfl) (by kernel_rfl) (by kernel_rfl)) ?_
  intro W base args ds p hval hA hsz _
  obtain rfl : args = #[] := by cases args with | mk l => cases l with | nil => rfl | cons v vs => cases ds <;> exact hA.elim
  exact blockNames_any W

theorem blockNames_holds : Rows.BlockNamesSaid :=
  OpenClaim.holds_of_wide 3 Try.f3 rfl rfl rfl rfl rfl rfl rfl ⟨rfl, rfl, rfl, rfl, rfl⟩ rfl rfl rfl rfl rfl (by kernel_rfl) Try.func3 (by kernel_rfl)
    (of_decide_eq_true (by kernel_rfl)) (by unfold Func.isWrapper; first | (rw [if_pos (by decide +kernel)]; kernel_rfl) | (rw [if_neg (by decide +kernel)]; exact ⟨rfl, rfl⟩))
    (fun os started H enc _ => blockNames_lifted os started H enc)
#print axioms blockNames_holds

end Go.Proofs.Ytcjmcnepfnhnlaa
