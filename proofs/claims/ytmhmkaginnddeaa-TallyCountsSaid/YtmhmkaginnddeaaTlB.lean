/- A new tally; whether one can vote so; what a node voted; one more vote. -/
import Derived.Test.YtmhmkaginnddeaaTlA
namespace Go.Proofs.Ytmhmkaginnddeaa
set_option maxRecDepth 100000
open Go.RowKit

section
variable {P : Program} {ops : Array Oper} {rest : List Oper} {a : Act} {Q : Exit → Act → World → Prop} {w : World} {d : Option Tmp} {ty t : TypeId} {pos : String} {af : Array Edge} {gd : Option (Nat × Bool)} {x y : Operand} {c : Bool}
theorem at_look (h : wpList P ops Q (⟨d, .lookup t x y c, ty, pos, af, gd⟩ :: rest) a w) : wpList P ops Q (⟨d, .lookup t x y c, ty, pos, af, gd⟩ :: rest) a w := h
theorem at_mkm {z : Option Operand} (h : wpList P ops Q (⟨d, .makeMap t z, ty, pos, af, gd⟩ :: rest) a w) : wpList P ops Q (⟨d, .makeMap t z, ty, pos, af, gd⟩ :: rest) a w := h
end
section
variable {ops : Array Oper} {rest : List Oper} {o : Oper} {a : Act} {Q : Exit → Act → World → Prop} {w : World}
/-- map[round]..{} -/
theorem w_mkround {t : TypeId} (hgd : o.guard = none) (ho : o.op = Op.makeMap t none)
    (k : ∀ g w', w.heap.size ≤ g → Ext w w' → w'.ownsMap Try.prog 67 tok g 0 (.map []) → wpList Try.prog ops Q rest (a.put o.dst (.map (some g))) w') : wpList Try.prog ops Q (o :: rest) a w := by
  refine wpList_plain hgd fun K hK => ?_
  have hk := hK _ _ (k w.heap.size (w.alloc (.map #[] 0)) (Nat.le_refl _) ((Ext.refl w).alloc _) (World.ownsMap_made w Try.prog 67 tok))
  unfold Oper.wp execOp
  simp [ho, run_makeMap, Result.andThen]
  exact hk
/-- m[key] = val -/
theorem w_mput {k e : TypeId} (K : Maps.Keyed Try.prog k) {t : TypeId} (ht : Try.prog.underlying t = some (.map k e)) (x y z : Operand) {g n : Nat} {D : DataW Value} {key val : Value} {kl : Go.Lit} (hgd : o.guard = none) (ho : o.op = Op.mapUpdate t x y z) (hd : o.dst = none)
    (hx : a.eval x = .map (some g)) (hy : a.eval y = key) (hz : a.eval z = val) (h : w.ownsMap Try.prog k tok g n D) (hn : n ≤ 1000000) (hkey : keyOf Try.prog k key = some kl)
    (kk : ∀ w', Mod (fun j => j = g) w w' → w'.ownsMap Try.prog k tok g (n + 1) (D.put kl (.held val)) → wpList Try.prog ops Q rest a w') : wpList Try.prog ops Q (o :: rest) a w := by
  refine wpList_mapUpdate_own w hgd x y z t ho k e K ht tok g n D hx h (by unfold maxLen; omega) key val kl hy hz hkey (.held val) [] rfl ?_
  intro w' h1 h2
  rw [hd]
  exact kk w' ⟨h2.os, h2.tape, h2.output, h2.size, fun j hj hne => h2.block j hj fun e => hne (by injection e)⟩ h1
end
/-- A map that was just made. -/
def Sp.nmap (lo : Nat) : Sp := .any (fun v w => ∃ b, v = .map (some b) ∧ lo ≤ b ∧ b < w.heap.size ∧ w.ownsMap Try.prog 3 tok b 0 (.map [])) fun _ _ _ ⟨b, h1, h2, h3, h4⟩ he => ⟨b, h1, h2, Nat.lt_of_lt_of_le h3 he.size, ownsMap_ext h4 he⟩
theorem op_mkmap {ops : Array Oper} {a : Act} {w : World} {r : List Sp} {o : Oper} {t : TypeId} {lo : Nat} (hle : lo ≤ w.heap.size) (hgd : o.guard = none) (ho : o.op = .makeMap t none) : opOk Try.prog ops a w r o [] (Sp.nmap lo) := by
  intro σ w' hx hg
  rw [if_pos (wanted_none hgd _)]
  unfold Oper.wp execOp
  simp [ho, run_makeMap, Result.andThen]
  exact ⟨_, rfl, (Ext.refl _).alloc _, _, rfl, Nat.le_trans hle hx.size, by simp, World.ownsMap_made w' Try.prog 3 tok⟩
theorem eqlSome (b : Nat) (w : World) : (binOp .eql 65 (.map (some b)) (.map none)).run Try.prog w = .ok (.bool false) w := by kernel_rfl
theorem eqlNil (w : World) : (binOp .eql 65 (.map none) (.map none)).run Try.prog w = .ok (.bool true) w := by kernel_rfl
theorem runs_mnil {o : Oper} {ρ : Operand → Value} {w : World} (x : Operand) {mb : Option Nat} (ho : o.op = .binOp .eql 65 x (.const (.map none)) 65) (hx : ρ x = .map mb) (hc : ρ (.const (.map none)) = .map none) : Runs Try.prog o ρ w (.bool mb.isNone) := by
  unfold Runs execOp
  cases mb <;> simp [ho, hx, hc, eqGuard, eqlSome, eqlNil]

set_option maxRecDepth 100000 in
set_option maxHeartbeats 1600000 in
theorem TNew_any {w : World} {v : Value} {t : List Int} (h0 : Ints w v t) (ht : StOk t) :
    Calls Try.prog 9 #[v] w fun e w' => ∃ p, e = .returned (.pointer (some ⟨p, 0, none⟩)) ∧ Tal (fun k => w.heap.size ≤ k ∧ k < w'.heap.size) w' p t (fun _ _ _ => none) 0 ∧ Ext w w' := by
  refine calls_keep ?_
  have hr := hide_ h0
  have hok := hide_ ht
  have hl8 := hide_ (show t.length * 8 ≤ 140737488355328 from by have := ht.2.1; omega)
  clear h0 ht
  go_enter Try.func9, Try.ntmps9
  go_wp2_with ((first
    | (go_at_call 29; refine (IClone_any hr.out hl8.out).mono ?_; rintro e w2 ⟨v2, rfl, o2, hX⟩; have hb2 := hide_ (show ∀ k, v2.ownBlock = some k → k < w2.heap.size from fun k hk => (own_block_lt (g := k) o2 hk).2))
    | ((with_reducible refine at_mkm ?_); refine w_mkround rfl rfl ?_; intro g w3 hg hx m3; replace o2 := o2.ext hx; have hs2 := hX.size; replace hX := hX.trans hx; clear hx)
    | ((with_reducible refine at_sbuild ?_); refine w_sbuild Try.stTal [v2, .map (some g)] rfl rfl rfl (by intro x hx; simp at hx; rcases hx with rfl | rfl; exact ⟨by decide, oneCell_cells (Sl.one' o2.ints)⟩; exact ⟨by decide, rfl⟩) ?_)
    | ((with_reducible refine at_box ?_); refine w_box _ [v2, .map (some g)] rfl rfl rfl rfl ?_; intro p w4 hp hx f4; replace o2 := o2.ext hx; have hg3 := m3.lt; replace m3 := ownsMap_ext m3 hx; have hs3 := hX.size; have hs4 := hx.size; replace hX := hX.trans hx; clear hx)
    | fail) <;> (try simp only [Act.put, List.setIfInBounds_toArray, List.set_cons_zero, List.set_cons_succ]))
  go_ret
  have hpl := f4.lt
  refine Keep.intro ⟨p, rfl, ⟨v2, g, _, fun _ _ => none, f4, o2.ints, fun k hk => ?_, ⟨⟨by omega, hpl⟩, ⟨by omega, by omega⟩, by omega⟩, m3, RndM.nil, fun _ _ _ => rfl, fun _ _ _ h => (nomatch h), fun _ _ _ _ h => (nomatch h), hok.out⟩, hX⟩
  have h1 := own_block_lt (g := k) o2 hk
  have h2 := hb2.out k hk
  exact ⟨⟨h1.1, h1.2⟩, h1.2, by omega, by omega⟩

/-- Can one vote so? -/
def CanB (k w x : Int) : Prop := (k = 4 ∨ k = 5) ∧ (0 ≤ w ∧ w ≤ 1000) ∧ -1 ≤ x
instance (k w x : Int) : Decidable (CanB k w x) := by unfold CanB; infer_instance
theorem canB_eq (k w x : Int) : decide (CanB k w x) = ((k == 4 || k == 5) && decide (0 ≤ w) && decide (w ≤ 1000) && decide (-1 ≤ x)) := by
  rw [Bool.eq_iff_iff, decide_eq_true_iff]
  unfold CanB
  simp only [decide_eq_true_eq, Bool.and_eq_true, Bool.or_eq_true, beq_iff_eq]
  constructor
  · rintro ⟨h1, ⟨h2, h3⟩, h4⟩; exact ⟨⟨⟨h1, h2⟩, h3⟩, h4⟩
  · rintro ⟨⟨⟨h1, h2⟩, h3⟩, h4⟩; exact ⟨h1, ⟨h2, h3⟩, h4⟩
set_option maxRecDepth 100000 in
set_option maxHeartbeats 1600000 in
theorem canBe_any (k v x : Int) (w : World) : Calls Try.prog 39 #[.int .i64 k, .int .i64 v, .int .i64 x] w fun e w' => e = .returned (.bool (decide (CanB k v x))) ∧ w' = w := by
  refine calls_keep ?_
  rw [canB_eq]
  cases c1 : (k == 4) <;> cases c2 : (k == 5) <;> cases c3 : decide (0 ≤ v) <;> cases c4 : decide (v ≤ 1000) <;> cases c5 : decide (-1 ≤ x)
  all_goals (
    go_enter Try.func39, Try.ntmps39
    go_wp2
    go_ret
    exact Keep.intro ⟨rfl, rfl⟩)

set_option maxRecDepth 100000 in
set_option maxHeartbeats 1600000 in
theorem TVote_any {X : Nat → Prop} {w : World} {p : Nat} {t : List Int} {T : Tab} {N : Nat} {k v j : Int} (h0 : Tal X w p t T N) (hk : In64 k) (hv : In64 v) (hj : In64 j) {r : Option Int} (hr : fat (T k v) j = r) :
    Calls Try.prog 17 #[.pointer (some ⟨p, 0, none⟩), .int .i64 k, .int .i64 v, .int .i64 j] w fun e w' => e = .returned (.tuple #[.int .i64 (r.getD 0), .bool r.isSome]) ∧ w' = w := by
  refine calls_keep ?_
  obtain ⟨sv, g, D, m, h⟩ := h0
  have f0 := hide_ h.obj
  have hown := hide_ h.own
  have hrnd := hide_ h.rnd
  have hin := hide_ (h.inn k v)
  have hk' := hide_ hk
  have hv' := hide_ hv
  have hj' := hide_ hj
  have hr' := hide_ hr
  clear h hk hv hj hr
  go_enter Try.func17, Try.ntmps17
  go_wp2_with ((first
    | ((with_reducible refine at_field ?_); refine w_field Try.stTal _ _ _ rfl rfl rfl (by omega) ?_; (try simp only [Act.put, List.setIfInBounds_toArray, List.set_cons_zero, List.set_cons_succ]))
    | ((with_reducible refine at_load ?_); refine w_fload _ rfl rfl rfl f0.out rfl (agg_of (by kernel_rfl)) ?_; (try simp only [Act.put, List.setIfInBounds_toArray, List.set_cons_zero, List.set_cons_succ]))
    | ((with_reducible refine at_sbuild ?_); refine w_sbuild Try.stRnd [.int .i64 k, .int .i64 v] rfl rfl rfl (by intro x hx; simp at hx; rcases hx with rfl | rfl; exact ⟨by decide, rfl⟩; exact ⟨by decide, rfl⟩) ?_; (try simp only [Act.put, List.setIfInBounds_toArray, List.set_cons_zero, List.set_cons_succ]))
    | ((with_reducible refine at_look ?_); refine w_rlook _ _ rfl rfl rfl rfl hk'.out hv'.out hown.out hrnd.out ?_; (try simp only [Act.put, List.setIfInBounds_toArray, List.set_cons_zero, List.set_cons_succ]))
    | ((with_reducible refine at_look ?_); refine w_ilook _ _ rfl rfl rfl rfl hj'.out hin.out hr'.out ?_; (try simp only [Act.put, List.setIfInBounds_toArray, List.set_cons_zero, List.set_cons_succ]))
    | fail) <;> (try simp only [Act.put, List.setIfInBounds_toArray, List.set_cons_zero, List.set_cons_succ]))
  go_ret2
  exact Keep.intro ⟨rfl, rfl⟩
end Go.Proofs.Ytmhmkaginnddeaa
