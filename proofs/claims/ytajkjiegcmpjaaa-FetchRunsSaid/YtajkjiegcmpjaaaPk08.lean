/- Operations of a phase in few words: what a walk's text says of each, by defaults. · A new tally; whether one can vote so; what a node voted; one more vote. · One more vote. · The contracts of the library on maps.Keys, laid over this program's maps of numbers and of nothing. · Who voted, and who voted for a value, rising; the views in which anybody voted. · Who voted for a value, rising; the views in which anybody voted. · The views in which anybody voted, rising. · For which value more than two thirds voted; which value is committed. -/
import Derived.Test.YtajkjiegcmpjaaaPk07
import Derived.Shelf.SlIterI.Nil
import Derived.Shelf.SlIterI.Stops
namespace Go.Proofs.Ytajkjiegcmpjaaa
set_option maxRecDepth 100000
open Go.RowKit
section
variable {P : Program} {ops : Array Oper} {a : Act} {w : World} {r : List Sp} {o : Oper}
theorem given1 {t j : Nat} {v : Value} {σ : Act} {w' : World} (hg : Given a r σ w' [(t, some j)]) (hs : r.getD j (.val undef) = .val v) : σ.tmps.getD t undef = v := by
  have h := hg.1
  rw [hs] at h
  exact h
theorem given0 {t : Nat} {v : Value} {σ : Act} {w' : World} (hg : Given a r σ w' [(t, none)]) (hv : a.tmps.getD t undef = v) : σ.tmps.getD t undef = v := by
  have h := hg.1
  rw [hv] at h
  exact h
theorem LinL.st {lo : Nat} {R : List Sp → Prop} {f i : Nat} (reads : List (Tmp × Option Nat)) {s : Sp} (h1 : ops[lo + i]? = some o) (h4 : opOk P ops a w r o reads s) (h5 : LinL P ops a w lo R f (i + 1) (s :: r))
    (h2 : (readsOkL ops lo i (conv i reads) && reads.all fun x => match x.2 with | some k => decide (k < i) | none => true) = true := by kernel_rfl) : LinL P ops a w lo R (f + 1) i r := LinL.step reads h1 h2 h4 h5
theorem opmv (v : Value) {t : Nat} (h3 : o.guard = none := by exact rfl) (h4 : (o.op = .move (.tmp t) ∨ o.op = .assign (.tmp t)) := by first | exact .inl rfl | exact .inr rfl) (hv : a.tmps.getD t undef = v := by exact rfl) : opOk P ops a w r o [(t, none)] (.val v) := op_out t v h3 h4 hv
theorem opcp (s : Sp) {t j : Nat} (h3 : o.guard = none := by exact rfl) (h4 : (o.op = .move (.tmp t) ∨ o.op = .assign (.tmp t)) := by first | exact .inl rfl | exact .inr rfl) (hs : r.getD j (.val undef) = s := by exact rfl) : opOk P ops a w r o [(t, some j)] s := op_copy t j s h3 h4 hs
theorem opfb (i' off c g : Nat) {t j b : Nat} {ty : TypeId} (h3 : o.guard = none := by exact rfl) (h4 : o.op = .fieldAddr ty (.tmp t) i' := by exact rfl) (hs : r.getD j (.val undef) = .val (.pointer (some ⟨g, b, none⟩)) := by exact rfl) (hc : c = b + off := by exact rfl) (hB : fieldB P ty i' off = true := by kernel_rfl) :
    opOk P ops a w r o [(t, some j)] (.val (.pointer (some ⟨g, c, none⟩))) :=
  op_runs h3 fun σ w' _ hg => ⟨_, runs_fieldB (ρ := σ.eval) (w := w') hB hc (.tmp t) g h4 (given1 hg hs), rfl⟩
theorem opfo (i' off c g : Nat) {t b : Nat} {ty : TypeId} (h3 : o.guard = none := by exact rfl) (h4 : o.op = .fieldAddr ty (.tmp t) i' := by exact rfl) (hv : a.tmps.getD t undef = .pointer (some ⟨g, b, none⟩) := by exact rfl) (hc : c = b + off := by exact rfl) (hB : fieldB P ty i' off = true := by kernel_rfl) :
    opOk P ops a w r o [(t, none)] (.val (.pointer (some ⟨g, c, none⟩))) :=
  op_runs h3 fun σ w' _ hg => ⟨_, runs_fieldB (ρ := σ.eval) (w := w') hB hc (.tmp t) g h4 (given0 hg hv), rfl⟩
theorem opnl {A : Addr} {t j : Nat} (h3 : o.guard = none := by exact rfl) (h4 : o.op = .nilCheck (.tmp t) := by exact rfl) (hs : r.getD j (.val undef) = .val (.pointer (some A)) := by exact rfl) : opOk P ops a w r o [(t, some j)] (.val (.pointer (some A))) :=
  op_runs h3 fun σ w' _ hg => ⟨_, runs_nil (ρ := σ.eval) (w := w') (.tmp t) h4 (given1 hg hs), rfl⟩
theorem opld (v : Value) {g k : Nat} {cs : List Value} (h : Fs w g cs) {t j : Nat} {ty : TypeId} (h3 : o.guard = none := by exact rfl) (h4 : o.op = .load ty (.tmp t) := by exact rfl) (hs : r.getD j (.val undef) = .val (.pointer (some ⟨g, k, none⟩)) := by exact rfl) (hi : cs[k]? = some v := by exact rfl) (ha : ∀ w, (isAgg ty).run P w = .ok false w := by exact agg_of (by kernel_rfl)) :
    opOk P ops a w r o [(t, some j)] (.val v) :=
  op_runs h3 fun σ w' hx hg => ⟨_, runs_fload (ρ := σ.eval) (w := w') (.tmp t) h4 (given1 hg hs) (ha w') (h.ext hx) hi, rfl⟩
end
section
variable {ops : Array Oper} {a : Act} {w : World} {r : List Sp} {o : Oper}
theorem opmf (g k c : Nat) {t : Nat} (h3 : o.guard = none := by exact rfl) (h4 : o.op = .fieldAddr 57 (.tmp t) k := by exact rfl) (hv : a.tmps.getD t undef = .pointer (some ⟨g, 0, none⟩) := by exact rfl) (hc : mOff k = c := by exact rfl) (hk : k < 8 := by omega) : opOk Try.prog ops a w r o [(t, none)] (.val (.pointer (some ⟨g, c, none⟩))) := by
  subst hc
  exact op_runs h3 fun σ w' _ hg => ⟨_, runs_mfield (ρ := σ.eval) (w := w') (.tmp t) g k h4 (given0 hg hv) hk, rfl⟩
end
end Go.Proofs.Ytajkjiegcmpjaaa
namespace Go.Proofs.Ytajkjiegcmpjaaa
set_option maxRecDepth 100000
open Go.RowKit
section
variable {P : Program} {ops : Array Oper} {rest : List Oper} {a : Act} {Q : Exit → Act → World → Prop} {w : World} {d : Option Tmp} {ty t : TypeId} {pos : String} {af : Array Edge} {gd : Option (Nat × Bool)} {x y : Operand} {c : Bool}
theorem at_look (h : wpList P ops Q (⟨d, .lookup t x y c, ty, pos, af, gd⟩ :: rest) a w) : wpList P ops Q (⟨d, .lookup t x y c, ty, pos, af, gd⟩ :: rest) a w := h
theorem at_mkm {z : Option Operand} (h : wpList P ops Q (⟨d, .makeMap t z, ty, pos, af, gd⟩ :: rest) a w) : wpList P ops Q (⟨d, .makeMap t z, ty, pos, af, gd⟩ :: rest) a w := h
end
section
variable {ops : Array Oper} {rest : List Oper} {o : Oper} {a : Act} {Q : Exit → Act → World → Prop} {w : World}
theorem w_mkround {t : TypeId} (hgd : o.guard = none) (ho : o.op = Op.makeMap t none)
    (k : ∀ g w', w.heap.size ≤ g → Ext w w' → w'.ownsMap Try.prog 118 tok g 0 (.map []) → wpList Try.prog ops Q rest (a.put o.dst (.map (some g))) w') : wpList Try.prog ops Q (o :: rest) a w := by
  refine wpList_plain hgd fun K hK => ?_
  have hk := hK _ _ (k w.heap.size (w.alloc (.map #[] 0)) (Nat.le_refl _) ((Ext.refl w).alloc _) (World.ownsMap_made w Try.prog 118 tok))
  unfold Oper.wp execOp
  simp [ho, run_makeMap, Result.andThen]
  exact hk
theorem w_mput {k e : TypeId} (K : Maps.Keyed Try.prog k) {t : TypeId} (ht : Try.prog.underlying t = some (.map k e)) (x y z : Operand) {g n : Nat} {D : DataW Value} {key val : Value} {kl : Go.Lit} (hgd : o.guard = none) (ho : o.op = Op.mapUpdate t x y z) (hd : o.dst = none)
    (hx : a.eval x = .map (some g)) (hy : a.eval y = key) (hz : a.eval z = val) (h : w.ownsMap Try.prog k tok g n D) (hn : n ≤ 1000000) (hkey : keyOf Try.prog k key = some kl)
    (kk : ∀ w', Mod (fun j => j = g) w w' → w'.ownsMap Try.prog k tok g (n + 1) (D.put kl (.held val)) → wpList Try.prog ops Q rest a w') : wpList Try.prog ops Q (o :: rest) a w := by
  refine wpList_mapUpdate_own w hgd x y z t ho k e K ht tok g n D hx h (by unfold maxLen; omega) key val kl hy hz hkey (.held val) [] rfl ?_
  intro w' h1 h2
  rw [hd]
  exact kk w' ⟨h2.os, h2.tape, h2.output, h2.size, fun j hj hne => h2.block j hj fun e => hne (by injection e)⟩ h1
end
def Sp.nmap (lo : Nat) : Sp := .any (fun v w => ∃ b, v = .map (some b) ∧ lo ≤ b ∧ b < w.heap.size ∧ w.ownsMap Try.prog 3 tok b 0 (.map [])) fun _ _ _ ⟨b, h1, h2, h3, h4⟩ he => ⟨b, h1, h2, Nat.lt_of_lt_of_le h3 he.size, ownsMap_ext h4 he⟩
theorem op_mkmap {ops : Array Oper} {a : Act} {w : World} {r : List Sp} {o : Oper} {t : TypeId} {lo : Nat} (hle : lo ≤ w.heap.size) (hgd : o.guard = none) (ho : o.op = .makeMap t none) : opOk Try.prog ops a w r o [] (Sp.nmap lo) := by
  intro σ w' hx hg
  rw [if_pos (wanted_none hgd _)]
  unfold Oper.wp execOp
  simp [ho, run_makeMap, Result.andThen]
  exact ⟨_, rfl, (Ext.refl _).alloc _, _, rfl, Nat.le_trans hle hx.size, by simp, World.ownsMap_made w' Try.prog 3 tok⟩
theorem eqlSome (b : Nat) (w : World) : (binOp .eql 67 (.map (some b)) (.map none)).run Try.prog w = .ok (.bool false) w := by kernel_rfl
theorem eqlNil (w : World) : (binOp .eql 67 (.map none) (.map none)).run Try.prog w = .ok (.bool true) w := by kernel_rfl
theorem runs_mnil {o : Oper} {ρ : Operand → Value} {w : World} (x : Operand) {mb : Option Nat} (ho : o.op = .binOp .eql 67 x (.const (.map none)) 67) (hx : ρ x = .map mb) (hc : ρ (.const (.map none)) = .map none) : Runs Try.prog o ρ w (.bool mb.isNone) := by
  unfold Runs execOp
  cases mb <;> simp [ho, hx, hc, eqGuard, eqlSome, eqlNil]
set_option maxHeartbeats 1600000 in
theorem TNew_any {w : World} {v : Value} {t : List Int} (h0 : Ints w v t) (ht : StOk t) :
    Calls Try.prog 37 #[v] w fun e w' => ∃ p, e = .returned (.pointer (some ⟨p, 0, none⟩)) ∧ Tal (fun k => w.heap.size ≤ k ∧ k < w'.heap.size) w' p t (fun _ _ _ => none) 0 ∧ Ext w w' := by
  refine z2cz ?_
  have hr := hide_ h0
  have hok := hide_ ht
  have hl8 := hide_ (show t.length * 8 ≤ 140737488355328 from by have := ht.2.1; omega)
  clear h0 ht
  go_enter Try.func37, Try.ntmps37
  go_wp2_with ((first | (go_at_call 26; refine (IClone_any hr.out hl8.out).mono ?_; rintro e w2 ⟨v2, rfl, o2, hX⟩; have hb2 := hide_ (show ∀ k, v2.ownBlock = some k → k < w2.heap.size from fun k hk => (own_block_lt (g := k) o2 hk).2)) | ((with_reducible refine at_mkm ?_); refine w_mkround rfl rfl ?_; intro g w3 hg hx m3; replace o2 := o2.ext hx; have hs2 := hX.size; replace hX := hX.trans hx; clear hx) | ((with_reducible refine at_sbuild ?_); refine w_sbuild Try.stTal [v2, .map (some g)] rfl rfl rfl (by intro x hx; simp at hx; rcases hx with rfl | rfl; exact ⟨by decide, oneCell_cells (Sl.one' o2.ints)⟩; exact ⟨by decide, rfl⟩) ?_) | ((with_reducible refine at_box ?_); refine w_box _ [v2, .map (some g)] rfl rfl rfl rfl ?_; intro p w4 hp hx f4; replace o2 := o2.ext hx; have hg3 := m3.lt; replace m3 := ownsMap_ext m3 hx; have hs3 := hX.size; have hs4 := hx.size; replace hX := hX.trans hx; clear hx) | fail) <;> (try refine z0z ?_))
  go_ret
  have hpl := f4.lt
  refine Keep.intro ⟨p, rfl, ⟨v2, g, _, fun _ _ => none, f4, o2.ints, fun k hk => ?_, ⟨⟨by omega, hpl⟩, ⟨by omega, by omega⟩, by omega⟩, m3, RndM.nil, fun _ _ _ => rfl, fun _ _ _ h => (nomatch h), fun _ _ _ _ h => (nomatch h), hok.out⟩, hX⟩
  have h1 := own_block_lt (g := k) o2 hk
  have h2 := hb2.out k hk
  exact ⟨⟨h1.1, h1.2⟩, h1.2, by omega, by omega⟩
def CanB (k w x : Int) : Prop := (k = 4 ∨ k = 5) ∧ (0 ≤ w ∧ w ≤ 1000) ∧ -1 ≤ x
instance (k w x : Int) : Decidable (CanB k w x) := by unfold CanB; infer_instance
theorem canB_eq (k w x : Int) : decide (CanB k w x) = ((k == 4 || k == 5) && decide (0 ≤ w) && decide (w ≤ 1000) && decide (-1 ≤ x)) := by
  rw [Bool.eq_iff_iff, decide_eq_true_iff]
  unfold CanB
  simp only [decide_eq_true_eq, Bool.and_eq_true, Bool.or_eq_true, beq_iff_eq]
  constructor
  · rintro ⟨h1, ⟨h2, h3⟩, h4⟩; exact ⟨⟨⟨h1, h2⟩, h3⟩, h4⟩
  · rintro ⟨⟨⟨h1, h2⟩, h3⟩, h4⟩; exact ⟨h1, ⟨h2, h3⟩, h4⟩
set_option maxHeartbeats 1600000 in
theorem canBe_any (k v x : Int) (w : World) : Calls Try.prog 79 #[.int .i64 k, .int .i64 v, .int .i64 x] w fun e w' => e = .returned (.bool (decide (CanB k v x))) ∧ w' = w := by
  refine z2cz ?_
  rw [canB_eq]
  cases c1 : (k == 4) <;> cases c2 : (k == 5) <;> cases c3 : decide (0 ≤ v) <;> cases c4 : decide (v ≤ 1000) <;> cases c5 : decide (-1 ≤ x)
  all_goals (
    go_enter Try.func79, Try.ntmps79
    go_wp2
    go_ret
    exact Keep.intro ⟨rfl, rfl⟩)
set_option maxHeartbeats 1600000 in
theorem TVote_any {X : Nat → Prop} {w : World} {p : Nat} {t : List Int} {T : Tab} {N : Nat} {k v j : Int} (h0 : Tal X w p t T N) (hk : In64 k) (hv : In64 v) (hj : In64 j) {r : Option Int} (hr : fat (T k v) j = r) :
    Calls Try.prog 60 #[.pointer (some ⟨p, 0, none⟩), .int .i64 k, .int .i64 v, .int .i64 j] w fun e w' => e = .returned (.tuple #[.int .i64 (r.getD 0), .bool r.isSome]) ∧ w' = w := by
  refine z2cz ?_
  obtain ⟨sv, g, D, m, h⟩ := h0
  have f0 := hide_ h.obj
  have hown := hide_ h.own
  have hrnd := hide_ h.rnd
  have hin := hide_ (h.inn k v)
  have hk' := hide_ hk
  have hv' := hide_ hv
  have hj' := hide_ hj
  have hr' := hide_ hr
  clear h hk hv hj hr
  go_enter Try.func60, Try.ntmps60
  go_wp2_with ((first | ((with_reducible refine at_field ?_); refine w_field Try.stTal _ _ _ rfl rfl rfl (by omega) ?_; (try simp only [Act.put, List.setIfInBounds_toArray, List.set_cons_zero, List.set_cons_succ])) | ((with_reducible refine at_load ?_); refine w_fload _ rfl rfl rfl f0.out rfl (agg_of (by kernel_rfl)) ?_; (try simp only [Act.put, List.setIfInBounds_toArray, List.set_cons_zero, List.set_cons_succ])) | ((with_reducible refine at_sbuild ?_); refine w_sbuild Try.stRnd [.int .i64 k, .int .i64 v] rfl rfl rfl (by intro x hx; simp at hx; rcases hx with rfl | rfl; exact ⟨by decide, rfl⟩; exact ⟨by decide, rfl⟩) ?_; (try simp only [Act.put, List.setIfInBounds_toArray, List.set_cons_zero, List.set_cons_succ])) | ((with_reducible refine at_look ?_); refine w_rlook _ _ rfl rfl rfl rfl hk'.out hv'.out hown.out hrnd.out ?_; (try simp only [Act.put, List.setIfInBounds_toArray, List.set_cons_zero, List.set_cons_succ])) | ((with_reducible refine at_look ?_); refine w_ilook _ _ rfl rfl rfl rfl hj'.out hin.out hr'.out ?_; (try simp only [Act.put, List.setIfInBounds_toArray, List.set_cons_zero, List.set_cons_succ])) | fail) <;> (try refine z0z ?_))
  go_ret2
  exact Keep.intro ⟨rfl, rfl⟩
end Go.Proofs.Ytajkjiegcmpjaaa
namespace Go.Proofs.Ytajkjiegcmpjaaa
set_option maxRecDepth 100000
open Go.RowKit
def putT (T : Tab) (k v : Int) (i : Nat) (x : Int) : Tab := fun k' v' i' => if k' = k ∧ v' = v ∧ i' = i then some x else T k' v' i'
def addT (n : Nat) (T : Tab) (k v j x : Int) : Tab := if CanB k v x ∧ (0 ≤ j ∧ j < (n : Int)) ∧ fat (T k v) j = none then putT T k v j.toNat x else T
def addOk (n : Nat) (T : Tab) (k v j x : Int) : Bool := decide (CanB k v x ∧ (0 ≤ j ∧ j < (n : Int)) ∧ fat (T k v) j = none)
set_option maxHeartbeats 6400000 in
theorem TAdd_any {X : Nat → Prop} {w : World} {p : Nat} {t : List Int} {T : Tab} {N : Nat} {k v j x : Int} (h0 : Tal X w p t T N) (hN : N ≤ 100000) (hk0 : In64 k) (hv0 : In64 v) (hj0 : In64 j) (hx0 : In64 x) :
    Calls Try.prog 65 #[.pointer (some ⟨p, 0, none⟩), .int .i64 k, .int .i64 v, .int .i64 j, .int .i64 x] w fun e w' => ∃ X', e = .returned (.bool (addOk t.length T k v j x)) ∧ Tal X' w' p t (addT t.length T k v j x) (N + 1) ∧ Upd X X' w w' ∧ (addOk t.length T k v j x = false → Ext w w') := by
  refine z2cz ?_
  have hT := hide_ h0
  have hk := hide_ hk0
  have hv := hide_ hv0
  have hj := hide_ hj0
  obtain ⟨sv, g, D, m, h⟩ := h0
  have f0 := hide_ h.obj
  have hst := hide_ h.stk
  have hX := Ext.refl w
  have hlen := h.st.2.1
  have hW0 := hide_ h
  have again := hide_ (show Tal X w p t T (N + 1) from ⟨sv, g, D, m, ⟨h.obj, h.stk, h.sto, h.xp, h.own.mono (by omega), h.rnd, fun k v => (h.inn k v).more (by omega), h.sep, h.ok, h.st⟩⟩)
  by_cases hc : CanB k v x
  rotate_left
  · have hcb := hide_ (decide_eq_false hc)
    have ha := hide_ (show addOk t.length T k v j x = false from decide_eq_false fun h => hc h.1)
    have hb := hide_ (show addT t.length T k v j x = T from if_neg fun h => hc h.1)
    clear hc h hk0 hv0 hj0 hx0
    go_enter Try.func65, Try.ntmps65
    go_wp2_with (first | go_big_skip | (go_at_call 79; refine (canBe_any k v x _).mono ?_; rintro e w4 ⟨rfl, hw4⟩; replace hw4 := hw4.symm; subst hw4; rw [hcb.out]) | fail)
    go_ret
    exact Keep.intro ⟨X, by rw [ha.out]; rfl, by rw [hb.out]; exact again.out, Upd.refl _ _, fun _ => Ext.refl _⟩
  have hcb := hide_ (decide_eq_true hc)
  by_cases hj1 : j < 0
  · have t1 : decide (j < 0) = true := decide_eq_true hj1
    have ha := hide_ (show addOk t.length T k v j x = false from decide_eq_false fun h => by have := h.2.1; omega)
    have hb := hide_ (show addT t.length T k v j x = T from if_neg fun h => by have := h.2.1; omega)
    clear hc h hk0 hv0 hj0 hx0 hj1
    go_enter Try.func65, Try.ntmps65
    go_wp2_with (first | go_big_skip | (go_at_call 79; refine (canBe_any k v x _).mono ?_; rintro e w4 ⟨rfl, hw4⟩; replace hw4 := hw4.symm; subst hw4; rw [hcb.out]) | fail)
    go_ret
    exact Keep.intro ⟨X, by rw [ha.out]; rfl, by rw [hb.out]; exact again.out, Upd.refl _ _, fun _ => Ext.refl _⟩
  have t1 : decide (j < 0) = false := decide_eq_false hj1
  by_cases hj2 : (t.length : Int) ≤ j
  · have t2 : decide ((t.length : Int) ≤ j) = true := decide_eq_true hj2
    have ha := hide_ (show addOk t.length T k v j x = false from decide_eq_false fun h => by have := h.2.1; omega)
    have hb := hide_ (show addT t.length T k v j x = T from if_neg fun h => by have := h.2.1; omega)
    clear hc h hk0 hv0 hj0 hx0 hj1 hj2
    go_enter Try.func65, Try.ntmps65
    go_wp2_with ((first | go_big_skip | (go_at_call 79; refine (canBe_any k v x _).mono ?_; rintro e w4 ⟨rfl, hw4⟩; replace hw4 := hw4.symm; subst hw4; rw [hcb.out]) | refine z21z ?_ | fail) <;> (try refine z0z ?_))
    go_ret
    exact Keep.intro ⟨X, by rw [ha.out]; rfl, by rw [hb.out]; exact again.out, Upd.ofExt hX X, fun _ => hX⟩
  have t2 : decide ((t.length : Int) ≤ j) = false := decide_eq_false hj2
  obtain ⟨i, hi⟩ : ∃ i : Nat, j = (i : Int) := ⟨j.toNat, by omega⟩
  subst hi
  have t3 : decide (t.length ≤ i) = false := decide_eq_false (by omega)
  obtain ⟨r, hr0⟩ : ∃ r, fat (T k v) (i : Int) = r := ⟨_, rfl⟩
  have hr := hide_ hr0
  cases r with
  | some y =>
    have ha := hide_ (show addOk t.length T k v i x = false from decide_eq_false fun h => by rw [hr0] at h; cases h.2.2)
    have hb := hide_ (show addT t.length T k v i x = T from if_neg fun h => by rw [hr0] at h; cases h.2.2)
    clear hc h hk0 hv0 hj0 hx0 hj1 hj2 hr0 t2
    go_enter Try.func65, Try.ntmps65
    go_wp2_with ((first | go_big_skip | (go_at_call 79; refine (canBe_any k v x _).mono ?_; rintro e w4 ⟨rfl, hw4⟩; replace hw4 := hw4.symm; subst hw4; rw [hcb.out]) | (go_at_call 60; refine (TVote_any ((hT.out).ext hX) hk.out hv.out hj.out hr.out).mono ?_; rintro e w5 ⟨rfl, hw5⟩; replace hw5 := hw5.symm; subst hw5) | refine z21z ?_ | fail) <;> (try refine z0z ?_))
    go_ret
    exact Keep.intro ⟨X, by rw [ha.out]; rfl, by rw [hb.out]; exact again.out.ext hX, Upd.ofExt hX X, fun _ => hX⟩
  | none =>
    have hcond : CanB k v x ∧ (0 ≤ (i : Int) ∧ (i : Int) < (t.length : Int)) ∧ fat (T k v) (i : Int) = none := ⟨hc, by omega, hr0⟩
    have ha := hide_ (show addOk t.length T k v i x = true from decide_eq_true hcond)
    have hb := hide_ (show addT t.length T k v i x = putT T k v i x from if_pos hcond)
    have hcan := hide_ hc
    have hit := hide_ (show i < t.length from by omega)
    have hx64 := hide_ (show -1 ≤ x ∧ x ≤ 9223372036854775807 from ⟨hc.2.2, hx0.2⟩)
    have hown := hide_ h.own
    have hrnd := hide_ h.rnd
    have hi64 := hide_ (show In64 (i : Int) from In64.nat (by omega))
    have hib : i ≤ 7 := by omega
    clear hc h hk0 hv0 hj0 hx0 hj1 hj2 hr0 hcond hlen t2
    go_enter Try.func65, Try.ntmps65
    go_wp2_with ((first | go_big_skip | (go_at_call 79; refine (canBe_any k v x _).mono ?_; rintro e w4 ⟨rfl, hw4⟩; replace hw4 := hw4.symm; subst hw4; rw [hcb.out]) | (go_at_call 60; refine (TVote_any ((hT.out).ext hX) hk.out hv.out hj.out hr.out).mono ?_; rintro e w5 ⟨rfl, hw5⟩; replace hw5 := hw5.symm; subst hw5) | refine z21z ?_ | ((with_reducible refine at_sbuild ?_); refine w_sbuild Try.stRnd [.int .i64 k, .int .i64 v] rfl rfl rfl (by intro x hx; simp at hx; rcases hx with rfl | rfl; exact ⟨by decide, rfl⟩; exact ⟨by decide, rfl⟩) ?_) | ((with_reducible refine at_alloc ?_); refine w_alloc Try.stRnd rfl rfl ?_; intro g3 w6 hg30 hx f3; have hg3 := hide_ (Nat.le_trans hX.size hg30); replace hX := hX.trans hx; clear hx hg30) | (refine z3az ?_; refine w_astore Try.stRnd _ _ (us := [.int .i64 k, .int .i64 v]) rfl rfl rfl rfl rfl f3 rfl rfl (by intro u hu; simp at hu; rcases hu with rfl | rfl <;> rfl) ?_; intro w7 hm7 f3'; replace hX := hm7.after hX (by intro j hj; subst hj; exact hg3.out); replace f3 := f3'; clear f3' hm7) | fail) <;> (try refine z0z ?_))
    cases hm0 : m k v with
    | none =>
      have hm := hide_ hm0
      have hN1 := hide_ (show N ≤ 1000000 from by omega)
      have hbne := hide_ (show ∀ b, w.heap.size ≤ b → b ≠ g from fun b hb e => by have := hown.out.lt; omega)
      clear hm0
      refine zpz ?_; intro wd hxd; have F0 := f0.out.ext (hX.trans hxd); have F3 := f3.ext hxd; have O1 := hide_ (ownsMap_ext hown.out (hX.trans hxd))
      refine zyz ?_
      intro wN hxN
      refine z1dz ?_
      rw [hm.out]
      replace hX := (hX.trans hxd).trans hxN
      replace f3 := (f3.ext hxd).ext hxN
      go_wp2
      refine zpz ?_; intro wd hxd; have F0 := f0.out.ext (hX.trans hxd); have F3 := f3.ext hxd
      refine Ph.gate 0 6 (by kernel_rfl) ?_
      refine z1xz ?_
      refine LinL.step (s := (.val (.pointer (some ⟨p, 0, none⟩)))) [(51, some 0)] rfl (by kernel_rfl) (op_runs rfl fun σ w' hx hg => ⟨_, runs_nil (ρ := σ.eval) (w := w') (.tmp 51) rfl hg.1, rfl⟩) ?_
      refine LinL.step (s := (.val (.pointer (some ⟨p, 1, none⟩)))) [(52, some 0)] rfl (by kernel_rfl) (op_runs rfl fun σ w' hx hg => ⟨_, runs_field (ρ := σ.eval) (w := w') Try.stTal (.tmp 52) p 1 rfl hg.1 (by omega), rfl⟩) ?_
      refine LinL.step (s := (.val (.map (some g)))) [(53, some 0)] rfl (by kernel_rfl) (op_runs rfl fun σ w' hx hg => ⟨_, runs_fload (ρ := σ.eval) (w := w') (.tmp 53) rfl hg.1 (agg_of (by kernel_rfl) _) (F0.ext hx) rfl, rfl⟩) ?_
      refine LinL.step (s := (.val (.agg #[.int .i64 k, .int .i64 v]))) [(13, none)] rfl (by kernel_rfl) (op_runs rfl fun σ w' hx hg => ⟨_, runs_aload (ρ := σ.eval) (w := w') Try.stRnd (.tmp 13) rfl hg.1 (F3.ext hx) rfl, rfl⟩) ?_
      refine LinL.step (s := (Sp.nmap w.heap.size)) [] rfl (by kernel_rfl) (op_mkmap (Nat.le_trans hX.size hxd.size) rfl rfl) ?_
      intro wN hxN
      simp only [Fin', Sp.nmap, List.reverse_cons, List.reverse_nil, List.nil_append, List.cons_append, List.drop_zero, List.take_succ_cons, List.take_zero]
      intro q56 hq56
      refine z0z ?_
      obtain ⟨b, rfl, hb1, hb2, hb3⟩ := hq56
      replace hX := (hX.trans hxd).trans hxN; replace f3 := (f3.ext hxd).ext hxN
      refine zhz ?_
      refine w_mput Try.keyR Try.underlying94 _ _ _ rfl rfl rfl rfl rfl rfl (ownsMap_ext hown.out hX) hN1.out (rkL_of hk.out hv.out) ?_; intro w8 hm8 o8
      show Ph Try.prog _ _ 7 _ _
      refine Ph.rest 7 0 (by kernel_rfl) ?_
      intro wM hxM
      refine z1az ?_
      go_wp2
      obtain ⟨D1, m1, hmb0, hW⟩ : ∃ D1 m1, m1 k v = some b ∧ TalW (fun j => X j ∨ j = b) wM p sv g D1 m1 t T (N + 1) := ⟨_, _, if_pos ⟨rfl, rfl⟩, (hW0.out.begin hm.out hcan.out.1 hcan.out.2.1 hX hb1 hb2 hm8 (ownsMap_mod hb3 hm8 (hbne.out b hb1)) o8).ext hxM⟩
      have U := hide_ (show Upd X (fun j => X j ∨ j = b) w wM from (show Upd X (fun j => X j ∨ j = b) w w8 from ⟨(hX.mod X).trans hm8 (fun j _ e => by have e' : j = g := e; rw [e']; exact hW0.out.xp.2.1), fun j hj => hj.imp id fun e => by have e' : j = b := e; rw [e']; exact ⟨hb1, Nat.lt_of_lt_of_le hb2 hm8.size⟩⟩).trans (Upd.ofExt hxM _))
      have hmb := hide_ hmb0
      have hmap0 := ownsMap_ext (ownsMap_mod hb3 hm8 (hbne.out b hb1)) hxM
      have hin := hide_ (show InM (.map []) (T k v) from by
        have := hW0.out.inn k v
        rw [hm.out] at this
        have e : T k v = fun _ => none := funext this
        rw [e]; exact InM.nil)
      replace f3 := (f3.mod hm8 (hbne.out g3 hg3.out)).ext hxM
      clear hmb0 o8 hm8 hX hb3 hxM
      have hmap := hide_ hmap0
      have hnn := hide_ (show (0 : Nat) ≤ 1000000 from by omega)
      refine zpz ?_; intro wd hxd; have F0 := hW.obj.ext hxd; have F3 := f3.ext hxd; have O1 := hide_ (ownsMap_ext hW.own hxd); have R1 := hide_ hW.rnd
      refine zuz ?_
      intro wN hxN
      refine z1dz ?_
      replace hW := (hW.ext hxd).ext hxN
      refine zhz ?_
      refine z50z ?_; intro w9 hm9 o9
      show Ph Try.prog _ _ 9 _ _
      refine Ph.rest 9 0 (by kernel_rfl) ?_
      intro wM hxM
      refine z1az ?_
      go_wp2
      go_ret
      refine Keep.intro ⟨_, by rw [ha.out]; rfl, ⟨sv, g, D1, m1, by rw [hb.out]; exact (hW.vote hmb.out hcan.out.1 hcan.out.2.1 hit.out hx64.out hm9 (N' := N + 1) (n := 0 + 1) (by omega) (by omega) o9 hin.out).ext hxM⟩, ?_, fun h => by rw [ha.out] at h; cases h⟩
      exact U.out.trans ((show Upd _ _ _ w9 from ⟨((hxd.trans hxN).mod _).trans hm9 (fun j _ e => .inr e), fun j hj => .inl hj⟩).trans (Upd.ofExt hxM _))
    | some b =>
      have hm := hide_ hm0
      have hmb := hide_ hm0
      clear hm0
      refine zpz ?_; intro wd hxd; have F0 := f0.out.ext (hX.trans hxd); have F3 := f3.ext hxd; have O1 := hide_ (ownsMap_ext hown.out (hX.trans hxd))
      refine zyz ?_
      intro wN hxN
      refine z1dz ?_
      rw [hm.out]
      replace hX := (hX.trans hxd).trans hxN
      replace f3 := (f3.ext hxd).ext hxN
      have hW := hW0.out.ext hX
      go_wp2
      obtain ⟨n, D', hn0, hmap0, hin⟩ : ∃ n D', n ≤ N ∧ wN.ownsMap Try.prog 3 tok b n D' ∧ InM D' (T k v) := by
        have := hW.inn k v
        rw [hmb.out] at this
        exact this
      have hmap := hide_ hmap0
      have hnn := hide_ (show n ≤ 1000000 from by omega)
      have U := hide_ (show Upd X X w wN from Upd.ofExt hX X)
      have hXb := hide_ (hW.sep k v b hmb.out).1
      clear hmap0
      refine zpz ?_; intro wd hxd; have F0 := hW.obj.ext hxd; have F3 := f3.ext hxd; have O1 := hide_ (ownsMap_ext hW.own hxd); have R1 := hide_ hW.rnd
      refine zuz ?_
      intro wN hxN
      refine z1dz ?_
      replace hW := (hW.ext hxd).ext hxN
      refine zhz ?_
      refine z50z ?_; intro w9 hm9 o9
      show Ph Try.prog _ _ 9 _ _
      refine Ph.rest 9 0 (by kernel_rfl) ?_
      intro wM hxM
      refine z1az ?_
      go_wp2
      go_ret
      refine Keep.intro ⟨_, by rw [ha.out]; rfl, ⟨sv, g, D, m, by rw [hb.out]; exact (hW.vote hmb.out hcan.out.1 hcan.out.2.1 hit.out hx64.out hm9 (N' := N + 1) (n := n + 1) (by omega) (by omega) o9 hin).ext hxM⟩, ?_, fun h => by rw [ha.out] at h; cases h⟩
      exact U.out.trans ((show Upd _ _ _ w9 from ⟨((hxd.trans hxN).mod _).trans hm9 (fun j _ e => by have e' : j = b := e; rw [e']; exact hXb.out), fun j hj => .inl hj⟩).trans (Upd.ofExt hxM _))
end Go.Proofs.Ytajkjiegcmpjaaa
namespace Go.Proofs.Ytajkjiegcmpjaaa
set_option maxRecDepth 100000
open Go.RowKit Go.Shelf
def Try.keysIL_ren : Go.Shelf.Ren := ⟨fun | 7 => 104 | 10 => 112 | n => n, fun | 23 => 67 | 26 => 3 | 3 => 3 | 28 => 122 | 0 => 0 | 27 => 121 | 33 => 31 | 4 => 4 | n => n, fun | n => n⟩
theorem Try.keysIL : Go.Proofs.SlLaysZI.n7 Try.prog Try.keysIL_ren := {
  mixed := by kernel_rfl,
  f7 := ⟨Try.f104.name, by decide, Try.func104.trans (congrArg some (by kernel_rfl))⟩,
  f10 := ⟨Try.f112.name, by decide, Try.func112.trans (congrArg some (by kernel_rfl))⟩,
  t0 := Try.underlying0,
  a0 := Try.isAgg0,
  z0 := Try.sizeOf0,
  v0 := Try.zeroValue0,
  t4 := Try.underlying4,
  a4 := Try.isAgg4,
  z4 := Try.sizeOf4,
  v4 := Try.zeroValue4,
  t23 := Try.underlying67,
  a23 := Try.isAgg67,
  z23 := Try.sizeOf67,
  v23 := Try.zeroValue67,
  t26 := Try.underlying3,
  a26 := Try.isAgg3,
  z26 := Try.sizeOf3,
  v26 := Try.zeroValue3,
  t27 := Try.underlying121,
  a27 := Try.isAgg121,
  z27 := Try.sizeOf121,
  v27 := Try.zeroValue121,
  t28 := Try.underlying122,
  a28 := Try.isAgg122,
  z28 := Try.sizeOf122,
  v28 := Try.zeroValue122,
  t33 := Try.underlying31,
  a33 := Try.isAgg31,
  z33 := Try.sizeOf31,
  v33 := Try.zeroValue31 }
def Try.keysUL_ren : Go.Shelf.Ren := ⟨fun | 7 => 89 | 10 => 105 | n => n, fun | 23 => 125 | 26 => 3 | 3 => 128 | 28 => 122 | 0 => 0 | 27 => 121 | 33 => 31 | 4 => 4 | n => n, fun | n => n⟩
theorem Try.keysUL : Go.Proofs.SlLaysZI.n7 Try.prog Try.keysUL_ren := {
  mixed := by kernel_rfl,
  f7 := ⟨Try.f89.name, by decide, Try.func89.trans (congrArg some (by kernel_rfl))⟩,
  f10 := ⟨Try.f105.name, by decide, Try.func105.trans (congrArg some (by kernel_rfl))⟩,
  t0 := Try.underlying0,
  a0 := Try.isAgg0,
  z0 := Try.sizeOf0,
  v0 := Try.zeroValue0,
  t4 := Try.underlying4,
  a4 := Try.isAgg4,
  z4 := Try.sizeOf4,
  v4 := Try.zeroValue4,
  t23 := Try.underlying125,
  a23 := Try.isAgg125,
  z23 := Try.sizeOf125,
  v23 := Try.zeroValue125,
  t26 := Try.underlying3,
  a26 := Try.isAgg3,
  z26 := Try.sizeOf3,
  v26 := Try.zeroValue3,
  t27 := Try.underlying121,
  a27 := Try.isAgg121,
  z27 := Try.sizeOf121,
  v27 := Try.zeroValue121,
  t28 := Try.underlying122,
  a28 := Try.isAgg122,
  z28 := Try.sizeOf122,
  v28 := Try.zeroValue122,
  t33 := Try.underlying31,
  a33 := Try.isAgg31,
  z33 := Try.sizeOf31,
  v33 := Try.zeroValue31 }
end Go.Proofs.Ytajkjiegcmpjaaa
namespace Go.Proofs.Ytajkjiegcmpjaaa
set_option maxRecDepth 100000
open Go.RowKit Go.Sort Go.Lib
theorem rise_picks (p : Nat → Bool) : ∀ n, Rise (picks p n)
  | 0 => List.Pairwise.nil
  | n + 1 => by
    rw [picks_succ]
    unfold Rise
    rw [List.pairwise_append]
    refine ⟨rise_picks p n, by split <;> simp, fun x hx y hy => ?_⟩
    have := picks_wf p n x hx
    split at hy
    · rw [List.mem_singleton] at hy; omega
    · cases hy
theorem mem_picks {p : Nat → Bool} {n : Nat} {x : Int} : x ∈ picks p n ↔ ∃ i : Nat, i < n ∧ p i = true ∧ x = (i : Int) := by
  simp only [picks, List.mem_map, List.mem_filter, List.mem_range]
  constructor
  · rintro ⟨i, ⟨h1, h2⟩, rfl⟩; exact ⟨i, h1, h2, rfl⟩
  · rintro ⟨i, h1, h2, rfl⟩; exact ⟨i, ⟨h1, h2⟩, rfl⟩
section
variable {F : Nat → Prop} {w w' : World} {P : Program} {k : TypeId} {R : Value → Option (DataW Value × List MemPlace)} {b r n cnt : Nat} {D : DataW Value} {left : Go.Lit → Bool}
theorem rngs_mod (h : w.ranges P k R b r n D left cnt) (hm : Mod F w w') (hb : ¬ F b) (hr : ¬ F r) : w'.ranges P k R b r n D left cnt := by
  have h1 := h.owns.lt
  have h2 := h.lt
  obtain ⟨es, clock, since, seen, c0, e1, G, hs, hD, e2, rest⟩ := h
  exact ⟨es, clock, since, seen, c0, (hm.block b h1 hb).trans e1, G, hs, hD, (hm.block r h2 hr).trans e2, rest⟩
theorem rngs_ext (h : w.ranges P k R b r n D left cnt) (he : Ext w w') : w'.ranges P k R b r n D left cnt := rngs_mod h (he.mod fun _ => False) id id
end
def EntryIs (w : World) (r : Nat) (key v : Value) : Prop := (Instr.entry (.pointer (some ⟨r, 0, none⟩))).run Try.prog w = .ok (.tuple #[key, v]) w
def NilIter (w : World) (r : Nat) : Prop := ∃ a s c, w.heap[r]? = some (.mapIter none a s c)
section
variable {ops : Array Oper} {rest : List Oper} {o : Oper} {a : Act} {Q : Exit → Act → World → Prop} {w : World} {k e t : TypeId} {b r n cnt : Nat} {D : DataW Value} {left : Go.Lit → Bool}
theorem w_rangeT (K : Maps.Keyed Try.prog k) (ht : Try.prog.underlying t = some (.map k e)) (x : Operand) (hgd : o.guard = none) (ho : o.op = Op.range t x) (hx : a.eval x = .map (some b)) (h : w.ownsMap Try.prog k tok b n D)
    (kk : ∀ r w', w.heap.size ≤ r → Ext w w' → w'.ranges Try.prog k tok b r n D (Maps.has D) (Maps.size D) → wpList Try.prog ops Q rest (a.put o.dst (.pointer (some ⟨r, 0, none⟩))) w') : wpList Try.prog ops Q (o :: rest) a w := by
  refine wpList_range_own w hgd x t ho k e K ht tok b n D hx h ?_
  intro w' h1 h2 h3
  exact kk _ w' (Nat.le_refl _) ⟨h2.os, h2.tape, h2.output, h2.size, fun j hj => h2.block j hj (by simp)⟩ h1
theorem w_nextT (K : Maps.Keyed Try.prog k) (x : Operand) (hgd : o.guard = none) (ho : o.op = Op.next x false) (hx : a.eval x = .pointer (some ⟨r, 0, none⟩)) (h : w.ranges Try.prog k tok b r n D left cnt)
    (h0 : (∀ kl, left kl = false) → wpList Try.prog ops Q rest (a.put o.dst (.tuple #[.bool false])) w)
    (h1 : ∀ key v kl w' cnt', keyOf Try.prog k key = some kl → left kl = true → (∀ zd, D.atKey kl zd = .held v) → w'.ranges Try.prog k tok b r n D (fun z => left z && !z.sameKey kl) cnt' → cnt' < cnt → Mod (fun j => j = r) w w' → EntryIs w' r key v →
      wpList Try.prog ops Q rest (a.put o.dst (.tuple #[.bool true, key, v])) w') : wpList Try.prog ops Q (o :: rest) a w := by
  refine wpList_plain hgd fun K' hK' => ?_
  unfold Oper.wp
  rcases h.next K o.type with ⟨_, hl, hrun⟩ | ⟨key, v, kl, y, w', cnt', hkey, hlk, hv, hat, hrun, hrg, hlt, hgr, hsz, hen⟩
  · simp [execOp, ho, hx, hrun, Result.andThen]
    exact hK' _ _ (h0 hl)
  · simp [execOp, ho, hx, hrun, Result.andThen]
    refine hK' _ _ (h1 key v kl w' cnt' hkey hlk (fun zd => ?_) hrg hlt ⟨hgr.os, hgr.tape, hgr.output, hgr.size, fun j hj hne => hgr.block j hj fun e => hne (by injection e)⟩ hen)
    rw [hat zd]
    have : some (DataW.held v, ([] : List MemPlace)) = some y := hv
    injection this with this
    rw [← this]
theorem w_entryT (x : Operand) {key v : Value} (hgd : o.guard = none) (ho : o.op = Op.entry x) (hx : a.eval x = .pointer (some ⟨r, 0, none⟩)) (h : EntryIs w r key v) (kk : wpList Try.prog ops Q rest (a.put o.dst (.tuple #[key, v])) w) : wpList Try.prog ops Q (o :: rest) a w := by
  refine wpList_runs hgd (v := .tuple #[key, v]) ?_ kk
  unfold EntryIs at h
  unfold Runs execOp
  simp [ho, hx, h]
theorem w_rangeN (ht : Try.prog.underlying t = some (.map k e)) (x : Operand) (hgd : o.guard = none) (ho : o.op = Op.range t x) (hx : a.eval x = .map none)
    (kk : ∀ r w', Ext w w' → NilIter w' r → wpList Try.prog ops Q rest (a.put o.dst (.pointer (some ⟨r, 0, none⟩))) w') : wpList Try.prog ops Q (o :: rest) a w := by
  refine wpList_plain hgd fun K' hK' => ?_
  have hk := hK' _ _ (kk w.heap.size (w.alloc (.mapIter none 0 #[] 0)) ((Ext.refl w).alloc _) ⟨0, #[], 0, heap_alloc_new w _⟩)
  unfold Oper.wp
  simp [execOp, ho, hx, run_range_nilMap w t k e ht, Result.andThen]
  exact hk
theorem w_nextN (x : Operand) (hgd : o.guard = none) (ho : o.op = Op.next x false) (hx : a.eval x = .pointer (some ⟨r, 0, none⟩)) (h : NilIter w r) (kk : wpList Try.prog ops Q rest (a.put o.dst (.tuple #[.bool false])) w) : wpList Try.prog ops Q (o :: rest) a w := by
  refine wpList_runs hgd (v := .tuple #[.bool false]) ?_ kk
  obtain ⟨a', s, c, hh⟩ := h
  unfold Runs execOp
  simp [ho, hx, Instr.next, getObj, Sem.run, hh, Result.andThen]
end
section
variable {P : Program} {ops : Array Oper} {rest : List Oper} {a : Act} {Q : Exit → Act → World → Prop} {w : World} {d : Option Tmp} {ty t : TypeId} {pos : String} {af : Array Edge} {gd : Option (Nat × Bool)} {x : Operand} {c : Bool}
theorem at_rng (h : wpList P ops Q (⟨d, .range t x, ty, pos, af, gd⟩ :: rest) a w) : wpList P ops Q (⟨d, .range t x, ty, pos, af, gd⟩ :: rest) a w := h
theorem at_nxt (h : wpList P ops Q (⟨d, .next x c, ty, pos, af, gd⟩ :: rest) a w) : wpList P ops Q (⟨d, .next x c, ty, pos, af, gd⟩ :: rest) a w := h
theorem at_ent (h : wpList P ops Q (⟨d, .entry x, ty, pos, af, gd⟩ :: rest) a w) : wpList P ops Q (⟨d, .entry x, ty, pos, af, gd⟩ :: rest) a w := h
end
theorem has_in64 {w : World} {R : Value → Option (DataW Value × List MemPlace)} {b n : Nat} {D : DataW Value} (h : w.ownsMap Try.prog 3 R b n D) {x : Int} (hx : Maps.has D (.int .i64 x) = true) : In64 x := by
  obtain ⟨es, clock, hb, G, hs, rfl⟩ := h
  rw [Maps.has_eq, List.any_eq_true] at hx
  obtain ⟨p, hp, hs⟩ := hx
  obtain ⟨e, he, rfl⟩ := List.mem_map.1 (mem_sorted.1 hp)
  obtain ⟨y, hy⟩ := G.reads e he
  rw [WideElems.rg_of hy] at hs
  have hk := WideElems.rd_key hy
  have e1 := WideAt.sameKey_eq hs
  rw [e1] at hk
  obtain ⟨x', _, e2, hw⟩ := Maps.keyOf_int_inv Try.underlying3 hk
  injection e2 with _ e2
  subst e2
  exact wf_in hw
theorem KeysI_any (mb : Option Nat) (w : World) : Calls Try.prog 104 #[.map mb] w fun e w' =>
    ∃ gb, e = .returned (.func (.func 112) #[] #[.pointer (some ⟨gb, 0, none⟩)]) ∧ Fs w' gb [.map mb] ∧ w.heap.size ≤ gb ∧ Ext w w' := by
  refine ((callsIn_wide (n := 5)).1 (AnyZI.keys_in Try.keysIL Fence.wide 5 trivial rfl mb w)).mono ?_
  rintro e w' ⟨rfl, rfl⟩
  exact ⟨_, rfl, Fs.alloc w _ _, Nat.le_refl _, (Ext.refl w).alloc _⟩
theorem SortedI_any {w : World} {gb g n : Nat} {D : DataW Value} (hf : Fs w gb [.map (some g)]) (hown : w.ownsMap Try.prog 3 tok g n D) (hn : n ≤ 20000) :
    Calls Try.prog 83 #[.func (.func 112) #[] #[.pointer (some ⟨gb, 0, none⟩)]] w fun e w' =>
      ∃ (v : Value) (l : List Int), e = .returned v ∧ OwnI w.heap.size w' v l ∧ Rise l ∧ (∀ x, x ∈ l ↔ Maps.has D (.int .i64 x) = true) ∧ Ext w w' := by
  refine (callsIn_wide (n := 5)).1 ?_
  have hmax : Maps.size D ≤ 20000 := Nat.le_trans hown.size_le hn
  have hseq := (SeqStops.gives (AnyZI.keys_stops (ρ := Try.keysIL_ren) { Try.keysIL with } Fence.wide (5 - 1 - 1 - 1) trivial rfl (by omega) gb g n D w hf.lt (hf.cell (i := 0) rfl) hown))
  have cS := AnyZI.sorted_in Try.sortedL Fence.wide 5 trivial trivial trivial trivial rfl (by omega) (Try.sortsL _) (enters_of Try.func94 (by kernel_rfl) rfl) 112 #[.pointer (some ⟨gb, 0, none⟩)] trivial (enters_of Try.func112 (by kernel_rfl) rfl) _ _ (by unfold maxLen; omega) (by omega) _ hseq
  refine CallsIn.mono cS ?_
  rintro e w' ⟨v, ss, rfl, ⟨hS, hmem⟩, hrow, _, hb⟩
  have hnd : ss.Nodup := by
    obtain ⟨es, hD, hap, hky⟩ := hown.entries Try.keyI
    refine hS.nodup_iff.2 ?_
    subst hD
    have : ∀ p ∈ es, ∃ x, p.1 = .int .i64 x := fun p hp => by
      obtain ⟨es', clock, hb', G, hs', hD'⟩ := hown
      injection hD' with hD'
      subst hD'
      obtain ⟨e, he, rfl⟩ := List.mem_map.1 (mem_sorted.1 hp)
      obtain ⟨y, hy⟩ := G.reads e he
      rw [WideElems.rg_of hy]
      obtain ⟨x', _, e2, _⟩ := Maps.keyOf_int_inv Try.underlying3 (WideElems.rd_key hy)
      exact ⟨x', e2⟩
    show (es.map fun p : Go.Lit × DataW Value => _root_.Go.intOf p.1).Nodup
    clear hown hS hmem cS hseq hky hmax
    induction es with
    | nil => exact List.nodup_nil
    | cons p es ih =>
      obtain ⟨h1, h2⟩ := List.pairwise_cons.1 hap
      rw [List.map_cons, List.nodup_cons]
      refine ⟨fun hc => ?_, ih h2 fun q hq => this q (List.mem_cons_of_mem _ hq)⟩
      obtain ⟨q, hq, he⟩ := List.mem_map.1 hc
      obtain ⟨x, hx⟩ := this p (List.mem_cons_self ..)
      obtain ⟨y, hy⟩ := this q (List.mem_cons_of_mem _ hq)
      rw [hx, hy] at he
      have : y = x := he
      exact h1 q hq (by rw [hx, hy, this])
  refine ⟨v, ss.mergeSort fun x y => decide (x ≤ y), rfl, OwnI.of_row ?_, ?_, fun x => ?_, hb⟩
  · rw [List.length_mergeSort]; exact hrow
  · rw [sort_rise hnd]; exact rise_rise ss
  · rw [(List.mergeSort_perm ss _).mem_iff]; exact hmem x
theorem KeysU_any (mb : Option Nat) (w : World) : Calls Try.prog 89 #[.map mb] w fun e w' =>
    ∃ gb, e = .returned (.func (.func 105) #[] #[.pointer (some ⟨gb, 0, none⟩)]) ∧ Fs w' gb [.map mb] ∧ w.heap.size ≤ gb ∧ Ext w w' := by
  refine ((callsIn_wide (n := 5)).1 (AnyZI.keys_in Try.keysUL Fence.wide 5 trivial rfl mb w)).mono ?_
  rintro e w' ⟨rfl, rfl⟩
  exact ⟨_, rfl, Fs.alloc w _ _, Nat.le_refl _, (Ext.refl w).alloc _⟩
theorem SortedU_any {w : World} {gb g n : Nat} {D : DataW Value} (hf : Fs w gb [.map (some g)]) (hown : w.ownsMap Try.prog 3 tok g n D) (hn : n ≤ 20000) :
    Calls Try.prog 83 #[.func (.func 105) #[] #[.pointer (some ⟨gb, 0, none⟩)]] w fun e w' =>
      ∃ (v : Value) (l : List Int), e = .returned v ∧ OwnI w.heap.size w' v l ∧ Rise l ∧ (∀ x, x ∈ l ↔ Maps.has D (.int .i64 x) = true) ∧ Ext w w' := by
  refine (callsIn_wide (n := 5)).1 ?_
  have hmax : Maps.size D ≤ 20000 := Nat.le_trans hown.size_le hn
  have hseq := (SeqStops.gives (AnyZI.keys_stops (ρ := Try.keysUL_ren) { Try.keysUL with } Fence.wide (5 - 1 - 1 - 1) trivial rfl (by omega) gb g n D w hf.lt (hf.cell (i := 0) rfl) hown))
  have cS := AnyZI.sorted_in Try.sortedL Fence.wide 5 trivial trivial trivial trivial rfl (by omega) (Try.sortsL _) (enters_of Try.func94 (by kernel_rfl) rfl) 105 #[.pointer (some ⟨gb, 0, none⟩)] trivial (enters_of Try.func105 (by kernel_rfl) rfl) _ _ (by unfold maxLen; omega) (by omega) _ hseq
  refine CallsIn.mono cS ?_
  rintro e w' ⟨v, ss, rfl, ⟨hS, hmem⟩, hrow, _, hb⟩
  have hnd : ss.Nodup := by
    obtain ⟨es, hD, hap, hky⟩ := hown.entries Try.keyI
    refine hS.nodup_iff.2 ?_
    subst hD
    have : ∀ p ∈ es, ∃ x, p.1 = .int .i64 x := fun p hp => by
      obtain ⟨es', clock, hb', G, hs', hD'⟩ := hown
      injection hD' with hD'
      subst hD'
      obtain ⟨e, he, rfl⟩ := List.mem_map.1 (mem_sorted.1 hp)
      obtain ⟨y, hy⟩ := G.reads e he
      rw [WideElems.rg_of hy]
      obtain ⟨x', _, e2, _⟩ := Maps.keyOf_int_inv Try.underlying3 (WideElems.rd_key hy)
      exact ⟨x', e2⟩
    show (es.map fun p : Go.Lit × DataW Value => _root_.Go.intOf p.1).Nodup
    clear hown hS hmem cS hseq hky hmax
    induction es with
    | nil => exact List.nodup_nil
    | cons p es ih =>
      obtain ⟨h1, h2⟩ := List.pairwise_cons.1 hap
      rw [List.map_cons, List.nodup_cons]
      refine ⟨fun hc => ?_, ih h2 fun q hq => this q (List.mem_cons_of_mem _ hq)⟩
      obtain ⟨q, hq, he⟩ := List.mem_map.1 hc
      obtain ⟨x, hx⟩ := this p (List.mem_cons_self ..)
      obtain ⟨y, hy⟩ := this q (List.mem_cons_of_mem _ hq)
      rw [hx, hy] at he
      have : y = x := he
      exact h1 q hq (by rw [hx, hy, this])
  refine ⟨v, ss.mergeSort fun x y => decide (x ≤ y), rfl, OwnI.of_row ?_, ?_, fun x => ?_, hb⟩
  · rw [List.length_mergeSort]; exact hrow
  · rw [sort_rise hnd]; exact rise_rise ss
  · rw [(List.mergeSort_perm ss _).mem_iff]; exact hmem x
theorem SortedN_any {w : World} {gb : Nat} (hf : Fs w gb [.map none]) :
    Calls Try.prog 83 #[.func (.func 112) #[] #[.pointer (some ⟨gb, 0, none⟩)]] w fun e w' =>
      ∃ (v : Value), e = .returned v ∧ OwnI w.heap.size w' v [] ∧ Ext w w' := by
  refine (callsIn_wide (n := 5)).1 ?_
  have hseq := AnyZI.keys_gives_nil (ρ := Try.keysIL_ren) { Try.keysIL with } Fence.wide (5 - 1 - 1 - 1) trivial rfl gb w hf.lt (hf.cell (i := 0) rfl)
  have cS := AnyZI.sorted_in Try.sortedL Fence.wide 5 trivial trivial trivial trivial rfl (by omega) (Try.sortsL _) (enters_of Try.func94 (by kernel_rfl) rfl) 112 #[.pointer (some ⟨gb, 0, none⟩)] trivial (enters_of Try.func112 (by kernel_rfl) rfl) _ _ (by unfold maxLen; omega) (by omega) _ hseq
  refine CallsIn.mono cS ?_
  rintro e w' ⟨v, ss, rfl, rfl, hrow, _, hb⟩
  exact ⟨v, rfl, OwnI.of_row (show w'.ownsRow w.heap.size 3 1 v _ _ from (by simpa using (show w'.ownsRow w.heap.size 3 1 v _ _ from hrow))), hb⟩
theorem SortedR_any {w : World} {gb N : Nat} {mb : Option Nat} {f : Nat → Option Int} (hf : Fs w gb [.map mb]) (h : InR N w mb f) (hn : N ≤ 2100) {L : List Int} (hL : Rise L) (hmem : ∀ x, x ∈ L ↔ In64 x ∧ (fat f x).isSome = true) :
    Calls Try.prog 83 #[.func (.func 112) #[] #[.pointer (some ⟨gb, 0, none⟩)]] w fun e w' =>
      ∃ (v : Value), e = .returned v ∧ OwnI w.heap.size w' v L ∧ Ext w w' := by
  cases mb with
  | none =>
    refine (SortedN_any hf).mono ?_
    rintro e w' ⟨v, rfl, o, hx⟩
    have : L = [] := List.eq_nil_iff_forall_not_mem.2 fun x hx => by
      have h1 := ((hmem x).1 hx).2
      have : fat f x = none := by unfold fat; split; rfl; exact h _
      rw [this] at h1; cases h1
    subst this
    exact ⟨v, rfl, o, hx⟩
  | some b =>
    obtain ⟨n, D, h0, h1, h2⟩ := h
    refine (SortedI_any hf h1 (by omega)).mono ?_
    rintro e w' ⟨v, l, rfl, o, hr, hm, hx⟩
    have : l = L := Rise.eq hr hL fun x => by
      rw [hm, hmem]
      constructor
      · intro hh
        have hi := has_in64 h1 hh
        exact ⟨hi, by rw [← (h2.2 x hi).1]; exact hh⟩
      · rintro ⟨hi, hh⟩
        rw [(h2.2 x hi).1]; exact hh
    subst this
    exact ⟨v, rfl, o, hx⟩
theorem fat_some {T : Tab} {n : Nat} (h : TabOk T n) {k v x y : Int} (hx : fat (T k v) x = some y) : ∃ i : Nat, x = (i : Int) ∧ i < n ∧ T k v i = some y := by
  unfold fat at hx
  split at hx
  · cases hx
  · have := h _ _ _ _ hx
    exact ⟨x.toNat, by omega, this.2.2.1, hx⟩
theorem mem_all {T : Tab} {n : Nat} (h : TabOk T n) (hn : n ≤ 7) {k v : Int} (x : Int) : x ∈ T.all n k v ↔ In64 x ∧ (fat (T k v) x).isSome = true := by
  unfold Tab.all
  rw [mem_picks]
  constructor
  · rintro ⟨i, hi, hp, rfl⟩
    exact ⟨In64.nat (by omega), by rw [fat_nat]; exact hp⟩
  · rintro ⟨_, hs⟩
    obtain ⟨y, hy⟩ := Option.isSome_iff_exists.1 hs
    obtain ⟨i, rfl, hi, ht⟩ := fat_some h hy
    exact ⟨i, hi, by unfold Tab.any; rw [ht]; rfl, rfl⟩
set_option maxHeartbeats 1600000 in
theorem TAll_any {X : Nat → Prop} {w : World} {p : Nat} {t : List Int} {T : Tab} {N : Nat} {k v : Int} (h0 : Tal X w p t T N) (hN : N ≤ 2100) (hk0 : In64 k) (hv0 : In64 v) {L : List Int} (hL0 : T.all t.length k v = L) :
    Calls Try.prog 88 #[.pointer (some ⟨p, 0, none⟩), .int .i64 k, .int .i64 v] w fun e w' => ∃ u, e = .returned u ∧ OwnI w.heap.size w' u L ∧ Ext w w' := by
  refine z2cz ?_
  obtain ⟨sv, g, D, m, h⟩ := h0
  have f0 := hide_ h.obj
  have hown := hide_ h.own
  have hrnd := hide_ h.rnd
  have hin := hide_ (h.inn k v)
  have hk := hide_ hk0
  have hv := hide_ hv0
  have hL := hide_ (show Rise L ∧ ∀ x, x ∈ L ↔ In64 x ∧ (fat (T k v) x).isSome = true from by
    subst hL0
    exact ⟨rise_picks _ _, mem_all h.ok h.st.2.1⟩)
  have hX := Ext.refl w
  clear h hk0 hv0 hL0
  go_enter Try.func88, Try.ntmps88
  go_wp2_with ((first | (go_at_call 104; refine (KeysI_any _ _).mono ?_; rintro e w2 ⟨gb, rfl, fb, hgb, hx⟩; replace hX := hX.trans hx; clear hx) | (go_at_call 83; refine (SortedR_any fb (hin.out.ext hX) hN hL.out.1 hL.out.2).mono ?_; rintro e w3 ⟨u, rfl, o3, hx⟩; have hs3 := hX.size; replace hX := hX.trans hx; clear hx) | refine z1pz ?_ | ((with_reducible refine at_look ?_); refine w_rlook _ _ rfl rfl rfl rfl hk.out hv.out (ownsMap_ext hown.out hX) hrnd.out ?_) | fail) <;> (try refine z0z ?_))
  go_ret
  exact Keep.intro ⟨u, rfl, o3.mono hs3, hX⟩
end Go.Proofs.Ytajkjiegcmpjaaa
namespace Go.Proofs.Ytajkjiegcmpjaaa
set_option maxHeartbeats 3200000
set_option maxRecDepth 100000
open Go.RowKit Go.Sort Go.Lib
theorem OwnI.own_lt {base : Nat} {w : World} {v : Value} {l : List Int} (h : OwnI base w v l) {k : Nat} (hk : v.ownBlock = some k) : base ≤ k ∧ k < w.heap.size := own_block_lt (g := k) h hk
def Came (f : Nat → Option Int) (x : Int) (left : Go.Lit → Bool) (l : List Int) : Prop :=
  l.Nodup ∧ ∀ i, i ∈ l ↔ In64 i ∧ fat f i = some x ∧ left (.int .i64 i) = false
theorem Came.start {D : DataW Value} {f : Nat → Option Int} {x : Int} (h : InM D f) : Came f x (Maps.has D) [] :=
  ⟨List.nodup_nil, fun i => ⟨(fun h => nomatch h), fun ⟨h1, h2, h3⟩ => by rw [(h.2 i h1).1, h2] at h3; cases h3⟩⟩
theorem Came.yes {f : Nat → Option Int} {x i : Int} {left : Go.Lit → Bool} {l : List Int} (h : Came f x left l) (hi : In64 i) (hl : left (.int .i64 i) = true) (hx : fat f i = some x) : Came f x (fun z => left z && !z.sameKey (.int .i64 i)) (l ++ [i]) := by
  have hni : i ∉ l := fun hc => by have := ((h.2 i).1 hc).2.2; rw [hl] at this; cases this
  refine ⟨List.nodup_append.2 ⟨h.1, by simp, fun a ha b hb => by rw [List.mem_singleton] at hb; subst hb; exact fun e => hni (e ▸ ha)⟩, fun j => ?_⟩
  rw [List.mem_append, h.2, List.mem_singleton]
  simp only [sameKey_int, Bool.and_eq_false_iff, Bool.not_eq_false', decide_eq_true_eq]
  constructor
  · rintro (⟨h1, h2, h3⟩ | rfl)
    · exact ⟨h1, h2, .inl h3⟩
    · exact ⟨hi, hx, .inr rfl⟩
  · rintro ⟨h1, h2, h3 | h3⟩
    · exact .inl ⟨h1, h2, h3⟩
    · exact .inr h3
theorem Came.no {f : Nat → Option Int} {x y i : Int} {left : Go.Lit → Bool} {l : List Int} (h : Came f x left l) (hy : fat f i = some y) (hx : y ≠ x) : Came f x (fun z => left z && !z.sameKey (.int .i64 i)) l := by
  refine ⟨h.1, fun j => ?_⟩
  rw [h.2]
  simp only [sameKey_int, Bool.and_eq_false_iff, Bool.not_eq_false', decide_eq_true_eq]
  constructor
  · rintro ⟨h1, h2, h3⟩; exact ⟨h1, h2, .inl h3⟩
  · rintro ⟨h1, h2, h3 | h3⟩
    · exact ⟨h1, h2, h3⟩
    · subst h3; rw [hy] at h2; injection h2 with h2; exact absurd h2 hx
theorem entry_int {D : DataW Value} {f : Nat → Option Int} (h : InM D f) {key v : Value} {kl : Go.Lit} (hkey : keyOf Try.prog 3 key = some kl) (hat : ∀ zd, D.atKey kl zd = .held v) :
    ∃ i x, key = .int .i64 i ∧ kl = .int .i64 i ∧ v = .int .i64 x ∧ In64 i ∧ fat f i = some x := by
  obtain ⟨i, rfl, rfl, hw⟩ := Maps.keyOf_int_inv Try.underlying3 hkey
  have hi := wf_in hw
  have h1 := (h.2 i hi).1
  rw [Maps.has_true_of_atKey hat] at h1
  obtain ⟨x, hx⟩ := Option.isSome_iff_exists.1 h1.symm
  have h2 := (h.2 i hi).2
  rw [hat, hx] at h2
  injection h2 with h2
  exact ⟨i, x, rfl, rfl, h2, hi, hx⟩
theorem came_all {T : Tab} {n : Nat} (hT : TabOk T n) (hn : n ≤ 7) {k v x : Int} {left : Go.Lit → Bool} {l : List Int} (h : Came (T k v) x left l) (hl : ∀ kl, left kl = false) : (l.mergeSort fun x y => decide (x ≤ y)) = T.who n k v x := by
  rw [sort_rise h.1]
  refine Rise.eq (rise_rise l) (rise_picks _ _) fun i => ?_
  show _ ↔ i ∈ picks (T.has k v x) n
  rw [mem_rise, h.2, mem_picks]
  constructor
  · rintro ⟨_, h2, _⟩
    obtain ⟨j, rfl, hj, ht⟩ := fat_some hT h2
    exact ⟨j, hj, Tab.has_iff.2 ht, rfl⟩
  · rintro ⟨j, hj, ht, rfl⟩
    exact ⟨In64.nat (by omega), by rw [fat_nat]; exact Tab.has_iff.1 ht, hl _⟩
theorem who_none {T : Tab} {n : Nat} {k v x : Int} (h : ∀ i, T k v i = none) : T.who n k v x = [] := by
  refine List.eq_nil_iff_forall_not_mem.2 fun i hi => ?_
  obtain ⟨j, _, ht, _⟩ := mem_picks.1 hi
  rw [Tab.has_iff, h j] at ht; cases ht
theorem TWho_any {X : Nat → Prop} {w : World} {p : Nat} {t : List Int} {T : Tab} {N : Nat} {k v x : Int} (h0 : Tal X w p t T N) (hN : N ≤ 2100) (hk0 : In64 k) (hv0 : In64 v) {L : List Int} (hL0 : T.who t.length k v x = L) :
    Calls Try.prog 97 #[.pointer (some ⟨p, 0, none⟩), .int .i64 k, .int .i64 v, .int .i64 x] w fun e w' => ∃ u, e = .returned u ∧ OwnI w.heap.size w' u L ∧ Ext w w' := by
  refine z2cz ?_
  obtain ⟨sv, g, D0, m, h⟩ := h0
  have f0 := hide_ h.obj
  have hown := hide_ h.own
  have hrnd := hide_ h.rnd
  have hk := hide_ hk0
  have hv := hide_ hv0
  have hX := Ext.refl w
  have hin0 := h.inn k v
  have hok := hide_ h.ok
  have hlen := hide_ h.st.2.1
  cases hm0 : m k v with
  | none =>
    rw [hm0] at hin0
    have hmb := hide_ hm0
    have hL := hide_ (show L = [] from by rw [← hL0]; exact who_none hin0)
    clear h hk0 hv0 hL0 hin0 hm0
    go_enter Try.func97, Try.ntmps97
    go_wp2_with ((first | ((with_reducible refine at_rng ?_); refine w_rangeN Try.underlying67 _ rfl rfl rfl ?_; intro r w2 hx hni; replace hX := hX.trans hx; clear hx) | refine z1pz ?_ | ((with_reducible refine at_look ?_); refine w_rlook _ _ rfl rfl rfl rfl hk.out hv.out (ownsMap_ext hown.out hX) hrnd.out ?_; rw [hmb.out]) | fail) <;> (try refine z0z ?_))
    go_loopw [9] (fun s wr => s = .slice none 0 0 ∧ NilIter wr r ∧ Ext w wr) (fun _ _ => 0)
    case atStart => exact ⟨rfl, hni, hX⟩
    case round =>
      clear hX hni
      obtain ⟨rfl, hni, hX⟩ := hrel
      have on := OwnI.nil w.heap.size wr
      go_wp2_with ((first | ((with_reducible refine at_nxt ?_); refine w_nextN _ rfl rfl rfl hni ?_) | refine z3iz ?_ | (go_at_call 94; refine (Sort_own on (by simp)).mono ?_; rintro e w3 ⟨rfl, o3, hm3⟩; replace hX := hm3.after hX (by intro i hi; cases hi)) | fail) <;> (try refine z0z ?_))
      go_ret
      exact Keep.intro ⟨_, rfl, by rw [hL.out]; simpa using o3, hX⟩
  | some b =>
    rw [hm0] at hin0
    have hmb := hide_ hm0
    obtain ⟨n, D, hn, hmap0, hinm0⟩ := hin0
    have hmap := hide_ hmap0
    have hinm := hide_ hinm0
    have hL := hide_ (fun l left (hc : Came (T k v) x left l) hl => (came_all h.ok h.st.2.1 hc hl).trans hL0)
    have hb := hide_ (show b < w.heap.size from hmap0.lt)
    clear h hk0 hv0 hL0 hm0 hmap0 hinm0
    go_enter Try.func97, Try.ntmps97
    go_wp2_with ((first | ((with_reducible refine at_rng ?_); refine w_rangeT Try.keyI Try.underlying67 _ rfl rfl rfl (ownsMap_ext hmap.out hX) ?_; intro r w2 hr0 hx hrg; have hr := hide_ (Nat.le_trans hX.size hr0); have hsz := hide_ (ownsMap_ext hmap.out hX).size_le; replace hX := hX.trans hx; clear hx hr0) | refine z1pz ?_ | ((with_reducible refine at_look ?_); refine w_rlook _ _ rfl rfl rfl rfl hk.out hv.out (ownsMap_ext hown.out hX) hrnd.out ?_; rw [hmb.out]) | fail) <;> (try refine z0z ?_))
    go_loopw [9] (fun s wr => ∃ l left cnt, OwnI w.heap.size wr s l ∧ wr.ranges Try.prog 3 tok b r n D left cnt ∧ Hid (Came (T k v) x left l) ∧ Hid (l.length + cnt ≤ N) ∧ Hid (∀ j, s.ownBlock = some j → j ≠ r ∧ j ≠ b) ∧ Ext w wr) (fun _ wr => wr.rangeLeft b r)
    case atStart => exact ⟨[], _, _, OwnI.nil _ _, hrg, Came.start hinm.out, by have := hsz.out; show 0 + _ ≤ N; omega, (fun j hj => nomatch hj), hX⟩
    case round =>
      clear hX hrg
      obtain ⟨l, left, cnt, hl, hrg, hcame, hcnt, hsep, hX⟩ := hrel
      have hlf := hide_ (show l.length ≤ 2100 from by have := hcnt.out; omega)
      have hmeas := hide_ hrg.left_eq
      go_wp2_with (first | (with_reducible refine at_nxt ?_; refine w_nextT Try.keyI _ rfl rfl rfl hrg ?_ ?_) | fail)
      · intro hdone
        have hfin := hide_ (hL.out l left hcame.out hdone)
        go_wp2_with ((first | refine z3iz ?_ | (go_at_call 94; refine (Sort_own hl hlf.out).mono ?_; rintro e w3 ⟨rfl, o3, hm3⟩; replace hX := hm3.after hX (fun i hi => (hl.own_lt hi).1); rw [hfin.out] at o3) | fail) <;> (try refine z0z ?_))
        go_ret
        exact Keep.intro ⟨_, rfl, o3, hX⟩
      · intro key vv kl w3 cnt' hkey hlk hat hrg2 hlt hm3 hen
        obtain ⟨i, y, rfl, rfl, rfl, hi64, hfi⟩ := entry_int hinm.out hkey hat
        have hl3 : OwnI w.heap.size w3 u9 l := own_mod hl hm3 (fun j hj e => (hsep.out j hj).1 e)
        replace hX := hm3.after hX (by intro j hj; have e : j = r := hj; rw [e]; exact hr.out)
        have hen' := hide_ hen
        have hlt' := hide_ hlt
        have hbig := hide_ (show (l.length + 1) * 8 ≤ 140737488355328 from by have := hlf.out; omega)
        cases c1 : (y == x)
        · have hc2 := hide_ (hcame.out.no hfi (by intro e; rw [e] at c1; simp at c1))
          clear hl hrg hcame hkey hlk hat hm3 hen hfi hlt
          go_wp2_with ((first | refine z5mz ?_ | fail) <;> (try refine z0z ?_))
          go_roundw
          case rel => exact ⟨l, _, cnt', hl3, hrg2, hc2, by have := hcnt.out; have := hlt'.out; show _ ≤ N; omega, hsep, hX⟩
          case measure => rw [hrg2.left_eq, hmeas.out]; exact hlt'.out
        · have hc2 := hide_ (hcame.out.yes hi64 hlk ((show y = x from by simpa using c1) ▸ hfi))
          clear hl hrg hcame hkey hlk hat hm3 hen hfi hlt
          replace hl := hl3
          replace hrg := hrg2
          clear hl3 hrg2
          go_wp2_with ((first | refine z5mz ?_ | ((with_reducible refine at_lit ?_); refine w_new Try.elI (i64s [i]) rfl rfl rfl (i64s_cells _) rfl (by omega) ?_; intro v5 w5 hx5 o5; replace o5 : OwnI _ w5 v5 [i] := o5; replace hl := hl.ext hx5; replace hrg := rngs_ext hrg hx5; have hs5 := hide_ (Nat.le_trans (show w.heap.size ≤ w3.heap.size from hX.size) hx5.size); replace hX := hX.trans hx5; clear hx5) | (refine z4vz ?_; intro v9 w9 o9 hb9 hg9 hg9') | fail) <;> (try refine z0z ?_))
          have hrb := hide_ (show r < w5.heap.size ∧ b < w5.heap.size from ⟨hrg.lt, hrg.owns.lt⟩)
          have hrg9 : w9.ranges Try.prog 3 tok b r n D _ cnt' := rngs_mod hrg (Mod.grown hg9) (fun e => (hsep.out b e).2 rfl) (fun e => (hsep.out r e).1 rfl)
          go_roundw
          case rel =>
            refine ⟨_, _, cnt', o9, hrg9, hc2, by have := hcnt.out; have := hlt'.out; show _ ≤ N; simp; omega, fun j hj => ?_, hX.trans' hb9⟩
            rcases hg9' with e | e
            · rw [e] at hj; exact hsep.out j hj
            · rw [e] at hj; injection hj with hj; have := hrb.out; omega
          case measure => rw [hrg9.left_eq, hmeas.out]; exact hlt'.out
end Go.Proofs.Ytajkjiegcmpjaaa
namespace Go.Proofs.Ytajkjiegcmpjaaa
set_option maxHeartbeats 3200000
set_option maxRecDepth 100000
open Go.RowKit Go.Sort Go.Lib
def CameV (m : Int → Int → Option Nat) (left : Go.Lit → Bool) (l : List Int) : Prop :=
  ∀ x, x ∈ l ↔ ∃ k, m k x ≠ none ∧ left (rkL k x) = false
theorem CameV.start {D : DataW Value} {m : Int → Int → Option Nat} (h : RndM D m) : CameV m (Maps.has D) [] :=
  fun x => ⟨(fun h => nomatch h), fun ⟨k, h1, h2⟩ => by
    have hi := h.in64 h1
    rw [(h.get k x hi.1 hi.2).1] at h2
    cases hm : m k x with
    | none => exact absurd hm h1
    | some b => rw [hm] at h2; cases h2⟩
theorem CameV.step {D : DataW Value} {m : Int → Int → Option Nat} (hR : RndM D m) {left : Go.Lit → Bool} {l : List Int} (h : CameV m left l) {k v : Int} (hm : m k v ≠ none) : CameV m (fun z => left z && !z.sameKey (rkL k v)) (l ++ [v]) := by
  intro x
  rw [List.mem_append, h, List.mem_singleton]
  simp only [Bool.and_eq_false_iff, Bool.not_eq_false']
  constructor
  · rintro (⟨k', h1, h2⟩ | rfl)
    · exact ⟨k', h1, .inl h2⟩
    · exact ⟨k, hm, .inr (WideAt.sameKey_self (rkL_key _ _))⟩
  · rintro ⟨k', h1, h2 | h2⟩
    · exact .inl ⟨k', h1, h2⟩
    · have hi := hR.in64 hm
      have hi' := hR.in64 h1
      exact .inr (rkL_inj hi'.1 hi'.2 hi.1 hi.2 (WideAt.sameKey_eq h2)).2
structure Vws (T : Tab) (N : Nat) (V : List Int) : Prop where
  rise : Rise V
  all : ∀ k w i, T k w i ≠ none → w ∈ V
  fit : ∀ w ∈ V, 0 ≤ w ∧ w ≤ 1000
  len : V.length ≤ N
def vwsOf (m : Int → Int → Option Nat) : List Int := picks (fun v => (m 4 v).isSome || (m 5 v).isSome) 1001
theorem mem_vws {D : DataW Value} {m : Int → Int → Option Nat} (hR : RndM D m) {v : Int} : v ∈ vwsOf m ↔ ∃ k, m k v ≠ none := by
  unfold vwsOf
  rw [mem_picks]
  constructor
  · rintro ⟨i, _, h, rfl⟩
    rcases Bool.or_eq_true_iff.1 h with h | h
    · exact ⟨4, fun e => by rw [e] at h; cases h⟩
    · exact ⟨5, fun e => by rw [e] at h; cases h⟩
  · rintro ⟨k, h⟩
    obtain ⟨hk, h1, h2⟩ := hR.dom k v h
    have e : v = ((v.toNat : Nat) : Int) := by omega
    refine ⟨v.toNat, by omega, ?_, e⟩
    rw [← e, Bool.or_eq_true_iff]
    have hs : (m k v).isSome = true := by cases hm : m k v with | none => exact absurd hm h | some b => rfl
    rcases hk with rfl | rfl
    · exact .inl hs
    · exact .inr hs
theorem TalW.vws {X : Nat → Prop} {w : World} {p g N : Nat} {sv : Value} {D : DataW Value} {m : Int → Int → Option Nat} {t : List Int} {T : Tab} (h : TalW X w p sv g D m t T N) : Vws T 1001 (vwsOf m) := by
  refine ⟨rise_picks _ _, fun k v i hT => ?_, fun v hv => ?_, picks_len _ _⟩
  · rw [mem_vws h.rnd]
    refine ⟨k, fun hm => ?_⟩
    have := h.inn k v
    rw [hm] at this
    exact hT (this i)
  · rw [mem_vws h.rnd] at hv
    obtain ⟨k, hm⟩ := hv
    exact (h.rnd.dom k v hm).2
theorem CameV.all {D : DataW Value} {m : Int → Int → Option Nat} (hR : RndM D m) {left : Go.Lit → Bool} {l : List Int} (hc : CameV m left l) (hl : ∀ kl, left kl = false) : rise l = vwsOf m :=
  Rise.eq (rise_rise l) (rise_picks _ _) fun v => by
    show _ ↔ v ∈ vwsOf m
    rw [mem_rise, hc, mem_vws hR]
    exact ⟨fun ⟨k, h1, _⟩ => ⟨k, h1⟩, fun ⟨k, h1⟩ => ⟨k, h1, hl _⟩⟩
theorem views_any {X : Nat → Prop} {w : World} {p g N : Nat} {sv : Value} {D : DataW Value} {m : Int → Int → Option Nat} {t : List Int} {T : Tab} (h : TalW X w p sv g D m t T N) (hN : N ≤ 2100) :
    Calls Try.prog 81 #[.pointer (some ⟨p, 0, none⟩)] w fun e w' => ∃ u, e = .returned u ∧ OwnI w.heap.size w' u (vwsOf m) ∧ Ext w w' := by
  refine z2cz ?_
  have f0 := hide_ h.obj
  have hown := hide_ h.own
  have hrnd := hide_ h.rnd
  have hX := Ext.refl w
  have hfin := hide_ (fun left l (hc : CameV m left l) hl => hc.all h.rnd hl)
  have hg := hide_ (show g < w.heap.size from h.own.lt)
  clear h
  go_enter Try.func81, Try.ntmps81
  go_wp2_with ((first | ((with_reducible refine at_rng ?_); refine w_rangeT Try.keyR Try.underlying94 _ rfl rfl rfl (ownsMap_ext hown.out hX) ?_; intro r w2 hr0 hx hrg; have hr := hide_ (Nat.le_trans hX.size hr0); have hsz := hide_ (ownsMap_ext hown.out hX).size_le; replace hX := hX.trans hx; clear hx hr0) | ((with_reducible refine at_field ?_); refine w_field Try.stTal _ _ _ rfl rfl rfl (by omega) ?_) | ((with_reducible refine at_load ?_); refine w_fload _ rfl rfl rfl (f0.out.ext hX) rfl (agg_of (by kernel_rfl)) ?_) | fail) <;> (try refine z0z ?_))
  go_loopw [3] (fun s wr => ∃ l left cnt, OwnI w.heap.size wr s l ∧ wr.ranges Try.prog 118 tok g r N D left cnt ∧ Hid (CameV m left l) ∧ Hid (l.length + cnt ≤ N) ∧ Hid (∀ j, s.ownBlock = some j → j ≠ r ∧ j ≠ g) ∧ Ext w wr) (fun _ wr => wr.rangeLeft g r)
  case atStart => exact ⟨[], _, _, OwnI.nil _ _, hrg, CameV.start hrnd.out, by have := hsz.out; show 0 + _ ≤ N; omega, (fun j hj => nomatch hj), hX⟩
  case round =>
    clear hX hrg
    obtain ⟨l, left, cnt, hl, hrg, hcame, hcnt, hsep, hX⟩ := hrel
    have hlf := hide_ (show l.length ≤ 2100 from by have := hcnt.out; omega)
    have hmeas := hide_ hrg.left_eq
    go_wp2_with (first | (with_reducible refine at_nxt ?_; refine w_nextT Try.keyR _ rfl rfl rfl hrg ?_ ?_) | fail)
    · intro hdone
      have hV := hide_ (hfin.out left l hcame.out hdone)
      have hcs := hide_ (compact_sort l)
      go_wp2_with ((first | refine z3iz ?_ | (go_at_call 94; refine (Sort_own hl hlf.out).mono ?_; rintro e w3 ⟨rfl, o3, hm3⟩; replace hX := hm3.after hX (fun i hi => (hl.own_lt hi).1)) | (go_at_call 95; refine (Compact_own o3).mono ?_; rintro e w4 ⟨u, rfl, o4, hm4⟩; rw [hcs.out, hV.out] at o4; replace hX := hm4.after hX (fun i hi => (o3.own_lt hi).1)) | fail) <;> (try refine z0z ?_))
      go_ret
      exact Keep.intro ⟨u, rfl, o4, hX⟩
    · intro key vv kl w3 cnt' hkey hlk hat hrg2 hlt hm3 hen
      obtain ⟨k, v, rfl, rfl, hk64, hv64⟩ := keyR_inv hkey
      have hkv : m k v ≠ none := by
        have h1 := (hrnd.out.get k v hk64 hv64).1
        rw [Maps.has_true_of_atKey hat] at h1
        intro e; rw [e] at h1; cases h1
      have hl3 : OwnI w.heap.size w3 u3 l := own_mod hl hm3 (fun j hj e => (hsep.out j hj).1 e)
      replace hX := hm3.after hX (by intro j hj; have e : j = r := hj; rw [e]; exact hr.out)
      have hen' := hide_ hen
      have hlt' := hide_ hlt
      have hbig := hide_ (show (l.length + 1) * 8 ≤ 140737488355328 from by have := hlf.out; omega)
      have hc2 := hide_ (hcame.out.step hrnd.out hkv)
      clear hl hrg hcame hkey hlk hat hm3 hen hlt hkv
      replace hl := hl3
      replace hrg := hrg2
      clear hl3 hrg2
      go_wp2_with ((first | refine z5mz ?_ | ((with_reducible refine at_alloc ?_); refine w_alloc Try.stRnd rfl rfl ?_; intro g4 w4 hg40 hx4 f4; have hg4 := hide_ hg40; clear hg40) | (refine z3az ?_; refine w_astore Try.stRnd _ _ (us := [.int .i64 k, .int .i64 v]) rfl rfl rfl rfl rfl f4 rfl rfl (by intro u hu; simp at hu; rcases hu with rfl | rfl <;> rfl) ?_; intro w5 hm5 f4'; replace f4 := f4'; have hx := hm5.after hx4 (by intro j hj; have e : j = g4 := hj; rw [e]; exact hg4.out); replace hl := hl.ext hx; replace hrg := rngs_ext hrg hx; replace hX := hX.trans hx; clear hx hx4 hm5 f4') | ((with_reducible refine at_field ?_); refine w_field Try.stRnd _ _ _ rfl rfl rfl (by omega) ?_) | ((with_reducible refine at_load ?_); refine w_fload _ rfl rfl rfl f4 rfl (agg_of (by kernel_rfl)) ?_) | ((with_reducible refine at_lit ?_); refine w_new Try.elI (i64s [v]) rfl rfl rfl (i64s_cells _) rfl (by omega) ?_; intro v5 w6 hx5 o5; replace o5 : OwnI _ w6 v5 [v] := o5; have hs5 := hide_ (Nat.le_trans (show w.heap.size ≤ w5.heap.size from hX.size) hx5.size); replace hl := hl.ext hx5; replace hrg := rngs_ext hrg hx5; replace hX := hX.trans hx5; clear hx5) | (refine z4vz ?_; intro v9 w9 o9 hb9 hg9 hg9') | fail) <;> (try refine z0z ?_))
      have hrb := hide_ (show r < w6.heap.size ∧ g < w6.heap.size from ⟨hrg.lt, hrg.owns.lt⟩)
      have hrg9 : w9.ranges Try.prog 118 tok g r N D _ cnt' := rngs_mod hrg (Mod.grown hg9) (fun e => (hsep.out g e).2 rfl) (fun e => (hsep.out r e).1 rfl)
      go_roundw
      case rel =>
        refine ⟨_, _, cnt', o9, hrg9, hc2, by have := hcnt.out; have := hlt'.out; show _ ≤ N; simp; omega, fun j hj => ?_, hX.trans' hb9⟩
        rcases hg9' with e | e
        · rw [e] at hj; exact hsep.out j hj
        · rw [e] at hj; injection hj with hj; have := hrb.out; omega
      case measure => rw [hrg9.left_eq, hmeas.out]; exact hlt'.out
end Go.Proofs.Ytajkjiegcmpjaaa
namespace Go.Proofs.Ytajkjiegcmpjaaa
set_option maxHeartbeats 3200000
set_option maxRecDepth 100000
open Go.RowKit
def Sp.ints (L : List Int) : Sp := .any (fun v w => Ints w v L) fun _ _ _ h he => h.ext he
theorem picks_i64s (p : Nat → Bool) {n : Nat} (hn : n ≤ 7) : I64s (picks p n) ∧ (picks p n).length * 8 ≤ 140737488351232 :=
  ⟨fun x hx => by have := picks_wf p n x hx; omega, by have := picks_len p n; omega⟩
theorem whoR {X : Nat → Prop} {w : World} {p : Nat} {t : List Int} {T : Tab} {N : Nat} {k v x : Int} (h : Tal X w p t T N) (hN : N ≤ 2100) (hk : In64 k) (hv : In64 v) {L : List Int} (hL : T.who t.length k v x = L) :
    Calls Try.prog 97 #[.pointer (some ⟨p, 0, none⟩), .int .i64 k, .int .i64 v, .int .i64 x] w fun e w' => ∃ u, e = .returned u ∧ Ext w w' ∧ (Sp.ints L).p u w' := by
  refine (TWho_any h hN hk hv hL).mono ?_
  rintro e w' ⟨u, rfl, o, hx⟩
  exact ⟨u, rfl, hx, o.ints⟩
theorem mostR {w : World} {sv u : Value} {t L : List Int} (h : Asked w sv u t L) {q : Bool} (hq : most t L = q) : Calls Try.prog 96 #[sv, u] w fun e w' => ∃ z, e = .returned z ∧ Ext w w' ∧ Sp.p (.val (.bool q)) z w' := by
  refine (Most_of h).mono ?_
  rintro e w' ⟨rfl, hx⟩
  exact ⟨_, rfl, hx, by rw [hq]; rfl⟩
theorem TMost_any {X : Nat → Prop} {w : World} {p : Nat} {t : List Int} {T : Tab} {N : Nat} {k v : Int} (h0 : Tal X w p t T N) (hN : N ≤ 2100) (hk0 : In64 k) (hv0 : In64 v) {r : Option Int} (hr0 : T.mostOf t k v = r) :
    Calls Try.prog 82 #[.pointer (some ⟨p, 0, none⟩), .int .i64 k, .int .i64 v] w fun e w' => e = .returned (.tuple #[.int .i64 (r.getD 0), .bool r.isSome]) ∧ Ext w w' := by
  refine z2cz ?_
  have hT := hide_ h0
  obtain ⟨sv, g, D, m, h⟩ := h0
  have f0 := hide_ h.obj
  have hst := hide_ h.stk
  have hok := hide_ h.st
  have hlen := hide_ h.st.2.1
  have htab := hide_ h.ok
  have hk := hide_ hk0
  have hv := hide_ hv0
  have hr := hide_ hr0
  have hX := Ext.refl w
  obtain ⟨L, hL0⟩ : ∃ L, T.all t.length k v = L := ⟨_, rfl⟩
  have hL := hide_ (show ∀ x, x ∈ L ↔ ∃ i : Nat, i < t.length ∧ T.any k v i = true ∧ x = (i : Int) from by subst hL0; exact fun x => mem_picks)
  have hLl := hide_ (show L.length ≤ 7 from by subst hL0; have := picks_len (T.any k v) t.length; have := h.st.2.1; show (picks _ _).length ≤ 7; omega)
  rw [← hr0]
  clear h hk0 hv0 hr0
  go_enter Try.func82, Try.ntmps82
  go_wp2_with ((first | (go_at_call 88; refine (TAll_any (hT.out.ext hX) hN hk.out hv.out hL0).mono ?_; rintro e w2 ⟨ua, rfl, oa, hx⟩; replace hX := hX.trans hx; clear hx) | ((with_reducible refine at_bi ?_); refine i_len _ rfl rfl rfl oa.ints ?_) | fail) <;> (try refine z0z ?_))
  have hoa := hide_ oa.ints
  have hX2 := hide_ hX
  clear oa hL0
  go_loopw [17] (fun u17 wr => ∃ i : Nat, u17 = .int .i64 i ∧ i ≤ L.length ∧ Hid (∀ (j : Nat) (y : Int), j < i → fat (T k v) (L.getD j 0) = some y → ¬ T.Mst t k v y) ∧ Ext w2 wr) (fun i _ => L.length - (intOf i).toNat)
  case atStart => exact ⟨0, rfl, Nat.zero_le _, (fun j y h => absurd h (Nat.not_lt_zero _)), Ext.refl _⟩
  case round =>
    clear hX
    obtain ⟨i, rfl, hi, hno, hX⟩ := hrel
    by_cases hlt0 : i < L.length
    · have hlt := hide_ hlt0
      have hi7 : i ≤ 7 := by have := hLl.out; omega
      obtain ⟨nd, hnd, hany, hli0⟩ := (hL.out L[i]).1 (List.getElem_mem hlt0)
      have hli := hide_ hli0
      obtain ⟨y, hy0⟩ := Option.isSome_iff_exists.1 hany
      have hvote := hide_ (show fat (T k v) (nd : Int) = some y from by rw [fat_nat]; exact hy0)
      have hj := hide_ (In64.nat (n := nd) (by have := hlen.out; omega))
      obtain ⟨q, hq0⟩ : ∃ q, most t (T.who t.length k v y) = q := ⟨_, rfl⟩
      have hq := hide_ hq0
      have hyb := hide_ (htab.out _ _ _ _ hy0).2.2.2
      have tl : decide (i < L.length) = true := decide_eq_true hlt0
      have hdone := hide_ (show q = true → T.mostOf t k v = some y from fun e => (Tab.mostOf_iff hok.out).2 (show most t (T.who t.length k v y) = true from hq0.trans e))
      have hmore := hide_ (show q = false → ∀ (j : Nat) (z : Int), j < i + 1 → fat (T k v) (L.getD j 0) = some z → ¬ T.Mst t k v z from fun e j z hj hz => by
        by_cases hji : j < i
        · exact hno.out j z hji hz
        · obtain rfl : j = i := by omega
          have e1 : L.getD j 0 = (nd : Int) := (getD_at L hlt0).trans hli0
          have hz' : fat (T k v) (nd : Int) = some z := e1 ▸ hz
          have hz2 := hy0.symm.trans ((fat_nat (T k v) nd).symm.trans hz')
          injection hz2 with hz2
          subst hz2
          intro hm
          have hm' : most t (T.who t.length k v y) = true := hm
          rw [hq0, e] at hm'; cases hm')
      have hws := hide_ (picks_i64s (T.has k v y) hlen.out)
      clear hno hnd hany hli0 hy0 hq0 hlt0
      go_wp2_with ((first | (go_at_call 60; refine (TVote_any (hT.out.ext (hX2.out.trans hX)) hk.out hv.out hj.out hvote.out).mono ?_; rintro e w3 ⟨rfl, hw3⟩; replace hw3 := hw3.symm; subst hw3) | (refine z40z ?_; intro ad had; replace had := had.trans (congrArg (fun z => some (Value.int .i64 z)) hli.out)) | refine z3iz ?_ | fail) <;> (try refine z0z ?_))
      refine zpz ?_; intro wd hxd; have F0 := f0.out.ext (hX2.out.trans (hX.trans hxd)); have S0 := hst.out.ext (hX2.out.trans (hX.trans hxd))
      refine Ph.rest 0 10 (by kernel_rfl) ?_
      refine z1xz ?_
      refine LinL.step (s := (.val (.pointer (some ⟨p, 0, none⟩)))) [(29, some 0)] rfl (by kernel_rfl) (op_runs rfl fun σ w' hx hg => ⟨_, runs_nil (ρ := σ.eval) (w := w') (.tmp 29) rfl hg.1, rfl⟩) ?_
      refine LinL.step (s := (.val (.pointer (some ⟨p, 0, none⟩)))) [(30, some 0)] rfl (by kernel_rfl) (op_runs rfl fun σ w' hx hg => ⟨_, runs_field (ρ := σ.eval) (w := w') Try.stTal (.tmp 30) p 0 rfl hg.1 (by omega), rfl⟩) ?_
      refine LinL.step (s := (.val (sv))) [(31, some 0)] rfl (by kernel_rfl) (op_runs rfl fun σ w' hx hg => ⟨_, runs_fload (ρ := σ.eval) (w := w') (.tmp 31) rfl hg.1 (agg_of (by kernel_rfl) _) (F0.ext hx) rfl, rfl⟩) ?_
      refine z1xz ?_
      refine LinL.step (s := (.val (.int .i64 k))) [(1, none)] rfl (by kernel_rfl) (op_out 1 (.int .i64 k) rfl (.inl rfl) rfl) ?_
      refine LinL.step (s := (.val (.int .i64 v))) [(2, none)] rfl (by kernel_rfl) (op_out 2 (.int .i64 v) rfl (.inl rfl) rfl) ?_
      refine LinL.step (s := (.val (.int .i64 y))) [(10, none)] rfl (by kernel_rfl) (op_out 10 (.int .i64 y) rfl (.inl rfl) rfl) ?_
      refine LinL.step (s := (Sp.ints (T.who t.length k v y))) [(33, some 3), (34, some 2), (35, some 1), (36, some 0)] rfl (by kernel_rfl) (op_calls 97 #[(.tmp 33), (.tmp 34), (.tmp 35), (.tmp 36)] #[65, 3, 3, 3] (fun σ => #[.pointer (some ⟨p, 0, none⟩), .int .i64 k, .int .i64 v, .int .i64 y]) rfl rfl (fun _ _ => rfl) fun σ w' hx hg => ⟨by have h33 : σ.tmps.getD 33 undef = .pointer (some ⟨p, 0, none⟩) := hg.1; have h34 : σ.tmps.getD 34 undef = .int .i64 k := hg.2.1; have h35 : σ.tmps.getD 35 undef = .int .i64 v := hg.2.2.1; have h36 : σ.tmps.getD 36 undef = .int .i64 y := hg.2.2.2.1; simp only [List.map_toArray, List.map_cons, List.map_nil, Act.eval, h33, h34, h35, h36], whoR (hT.out.ext (hX2.out.trans (hX.trans (hxd.trans hx)))) hN hk.out hv.out rfl⟩) ?_
      refine LinL.step (s := (.val (.bool q))) [(32, some 5), (37, some 0)] rfl (by kernel_rfl) (op_calls 96 #[(.tmp 32), (.tmp 37)] #[24, 24] (fun σ => #[sv, σ.tmps.getD 37 undef]) rfl rfl (fun _ _ => rfl) fun σ w' hx hg => ⟨by have h32 : σ.tmps.getD 32 undef = sv := hg.1; simp only [List.map_toArray, List.map_cons, List.map_nil, Act.eval, h32], mostR ⟨hok.out, S0.ext hx, hg.2.1, hws.out.1, hws.out.2⟩ hq.out⟩) ?_
      intro wN hxN
      refine z3vz ?_
      intro q37 hq37
      refine z0z ?_
      replace hX := hX.trans (hxd.trans hxN)
      clear hxd hxN F0 S0
      cases q
      · go_wp2
        go_roundw
        case rel => exact ⟨i + 1, by go_num, by have := hlt.out; omega, hmore.out rfl, hX⟩
        case measure => have := hlt.out; simp [intOf]; omega
      · have hd := hide_ (hdone.out rfl)
        go_wp2
        go_ret2
        exact Keep.intro ⟨by rw [hd.out]; rfl, hX2.out.trans hX⟩
    · have hfin := hide_ (show T.mostOf t k v = none from by
        cases hm : T.mostOf t k v with
        | none => rfl
        | some y =>
          exfalso
          have hM := (Tab.mostOf_iff hok.out).1 hm
          obtain ⟨nd, hnd, hy⟩ := hM.one hok.out
          have hmem : (nd : Int) ∈ L := (hL.out _).2 ⟨nd, hnd, by unfold Tab.any; rw [hy]; rfl, rfl⟩
          obtain ⟨j, hj, he⟩ := List.getElem_of_mem hmem
          exact hno.out j y (by omega) (((getD_at L hj).trans he) ▸ ((fat_nat (T k v) nd).trans hy)) hM)
      have tl : decide (i < L.length) = false := decide_eq_false hlt0
      clear hlt0 hno
      go_wp2
      go_ret2
      exact Keep.intro ⟨by rw [hfin.out]; rfl, hX2.out.trans hX⟩
end Go.Proofs.Ytajkjiegcmpjaaa
