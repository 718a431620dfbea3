/- The chapter's example of a bag, by its steps. -/
import Derived.Test.YtkkbpmkeemfppaaNtR
import Derived.Test.YtkkbpmkeemfppaaNtS
import Derived.Test.YtkkbpmkeemfppaaFL
import Derived.Test.YtkkbpmkeemfppaaSame
namespace Go.Proofs.Ytkkbpmkeemfppaa
open Go.RowKit

theorem BLenN_any {F : Nat → Prop} {w : World} {p : Nat} {l : List Int} {z : Int} (h : Bg F w p l) (hz : (l.length : Int) = z) :
    Calls Try.prog 22 #[.pointer (some ⟨p, 0, none⟩)] w fun e w' => e = .returned (.int .i64 z) ∧ Ext w w' := by
  obtain ⟨c, v, gs, hs, hB⟩ := h
  subst hz
  exact BLen_any hB
set_option maxRecDepth 100000 in
set_option maxHeartbeats 3200000 in
theorem netAlive_any (w : World) : Calls Try.prog 12 #[] w fun e w' => e = .returned (.bool true) ∧ Ext w w' := by
  refine calls_keep ?_
  go_enter Try.func12, Try.ntmps12
  go_wp2_with (first
    | (go_at_call 14; refine (BNew_any).mono ?_; rintro e w4 ⟨p, F, rfl, hB, hx, hF⟩; replace hB := hide_ hB; have hO := hide_ (show Out w F w4 from ⟨hx, hF⟩); clear hx hF)
    | (go_at_call 15; refine (BPut_any (q := true) hB.out (by decide)).mono ?_; rintro e w4 ⟨rfl, hB', hm⟩; replace hB := hide_ hB'; clear hB'; replace hO := hide_ (hO.out.upd ⟨hm, fun _ h => .inl h⟩); clear hm)
    | (go_at_call 17; refine (BTake_any (q := true) (x := 6) hB.out rfl rfl).mono ?_; rintro e w4 ⟨rfl, F', hU, hB'⟩; replace hB := hide_ hB'; replace hO := hide_ (hO.out.upd hU); clear hB' hU)
    | (go_at_call 21; refine (BAt_any (q := true) (x := 7) hB.out rfl rfl).mono ?_; rintro e w4 ⟨rfl, F2, hU, c, v, gs, ⟨hs, hB'⟩, hn⟩; have hB := hide_ (show Bg F2 w4 p _ from ⟨c, v, gs, hs, hB'⟩); replace hO := hide_ (hO.out.upd hU); clear hB' hU hn)
    | (go_at_call 22; refine (BLenN_any (z := 2) hB.out rfl).mono ?_; rintro e w4 ⟨rfl, hx⟩; replace hO := hide_ (hO.out.extend hx); clear hx)
    | fail)
  go_ret
  exact Keep.intro ⟨rfl, hO.out.ext⟩
theorem aliveR (w : World) : Calls Try.prog 12 #[] w fun e w' => e = .returned (.bool true) ∧ Ext w w' := netAlive_any w
def Sp.oi (lo : Nat) (l : List Int) : Sp := .any (fun v w => OwnI lo w v l) fun _ _ _ h he => h.ext he
theorem retO {f : FuncId} {args : Array Value} {w : World} {lo : Nat} {l : List Int} (hlo : lo ≤ w.heap.size) (h : Calls Try.prog f args w fun e w' => ∃ v', e = .returned v' ∧ OwnI w.heap.size w' v' l ∧ Ext w w') : Calls Try.prog f args w fun e w' => ∃ v', e = .returned v' ∧ Ext w w' ∧ Sp.p (Sp.oi lo l) v' w' := by
  refine h.mono ?_
  rintro e w' ⟨v', rfl, ho, hx⟩
  exact ⟨_, rfl, hx, ho.mono hlo⟩
theorem runs_ar {P : Program} {o : Oper} {w : World} {ρ : Operand → Value} {t e : TypeId} {n g i : Nat} (hu : P.underlying t = some (.array n e)) (he : (P.info? e).map (·.size) = some 1) (x y : Operand) (ho : o.op = .indexAddr t x y) (hx : ρ x = .pointer (some ⟨g, 0, none⟩)) (hy : ρ y = .int .i64 (i : Int)) (hi : i < n) : Runs P o ρ w (.pointer (some ⟨g, i, none⟩)) := by
  obtain ⟨j, hj, hs⟩ := Option.map_eq_some_iff.1 he
  have := runs_aidx (o := o) (ρ := ρ) (w := w) hu hj hs x y ho hx i hy hi
  rwa [add_zero_off] at this
theorem runs_beqq {P : Program} {o : Oper} {w : World} {ρ : Operand → Value} {t t' : TypeId} {m : Bool} (x y : Operand) (hu : P.underlying t = some .bool) (ho : o.op = .binOp .eql t x y t') (hx : ρ x = .bool m) (hy : ρ y = .bool m) : Runs P o ρ w (.bool true) := by
  have := runs_beqb (w := w) x y hu ho hx hy
  rwa [beq_self_eq_true] at this
end Go.Proofs.Ytkkbpmkeemfppaa
