/- Maps by kind and view, maps by node; the object that is a tally: what it holds. -/
import Derived.Test.YtmhmkaginnddeaaFC
import Derived.Test.YtmhmkaginnddeaaSHG
import Derived.Test.YtmhmkaginnddeaaSTK
import Derived.Test.YtmhmkaginnddeaaTalN
import Derived.Maps.RangeWalk
import Derived.DeepKeys3
namespace Go.Proofs.Ytmhmkaginnddeaa
set_option maxRecDepth 100000
open Go.RowKit

def In64 (x : Int) : Prop := -9223372036854775808 ≤ x ∧ x ≤ 9223372036854775807
theorem In64.wf {x : Int} (h : In64 x) : (Lit.int .i64 x).wf = true := by unfold In64 at h; simp [Lit.wf, IntKind.min, IntKind.max, IntKind.signed, IntKind.bits]; omega
theorem wf_in {x : Int} (h : (Lit.int .i64 x).wf = true) : In64 x := by unfold In64; simp [Lit.wf, IntKind.min, IntKind.max, IntKind.signed, IntKind.bits] at h; omega
theorem In64.nat {n : Nat} (h : n ≤ 1000000) : In64 (n : Int) := by unfold In64; omega

/-! ### Keys: a kind and a view -/
theorem Try.keyR : Maps.Keyed Try.prog 67 := Maps.Keyed.of_law (deep_law (m := 2) (by omega) (by kernel_rfl) (by kernel_rfl) (by kernel_rfl))
def rkV (k w : Int) : Value := .agg #[.int .i64 k, .int .i64 w]
noncomputable def rkL (k w : Int) : Go.Lit := .string (keyBytes [.int .i64 k, .int .i64 w])
theorem Try.cellsR : Try.prog.cellsOf 67 = 2 := by kernel_rfl
theorem Try.cellsI : Try.prog.cellsOf 3 = 1 := by kernel_rfl
theorem Try.ktR : Try.prog.keyType 67 = true := by kernel_rfl
theorem Try.tsz : ∃ m, Try.prog.types.size = m + 1 := ⟨Try.prog.types.size - 1, by kernel_rfl⟩
theorem rkL_of {k w : Int} (hk : In64 k) (hw : In64 w) : keyOf Try.prog 67 (rkV k w) = some (rkL k w) := by
  obtain ⟨m, hm⟩ := Try.tsz
  unfold keyOf
  rw [Try.underlying67]
  simp only [Try.ktR, Bool.true_and, rkV, Value.formed, Try.underlying67, Try.cellsR, hm, rkL]
  simp [Program.keyLits, Try.underlying67, Try.underlying3, Try.cellsR, Try.cellsI, Value.cells, hk.wf, hw.wf]
theorem kl_int {m : Nat} {a : Value} {y : List Go.Lit} (h : Try.prog.keyLits (m + 1) 3 [a] = some y) : ∃ n, a = .int .i64 n ∧ y = [.int .i64 n] ∧ In64 n := by
  unfold Program.keyLits at h
  rw [Try.underlying3] at h
  cases a with
  | int q n =>
    simp only at h
    split at h
    · rename_i hc
      obtain ⟨rfl, hw⟩ := hc
      injection h with h
      exact ⟨n, rfl, h.symm, wf_in hw⟩
    · cases h
  | _ => cases h
theorem keyR_inv {v : Value} {l : Go.Lit} (h : keyOf Try.prog 67 v = some l) : ∃ k w, v = rkV k w ∧ l = rkL k w ∧ In64 k ∧ In64 w := by
  obtain ⟨m, hm⟩ := Try.tsz
  unfold keyOf at h
  rw [Try.underlying67] at h
  simp only [Try.ktR, Bool.true_and] at h
  split at h
  · rename_i hf
    cases v <;> simp only [Value.formed, Try.underlying67, Bool.false_eq_true] at hf
    rename_i cs
    rw [Try.cellsR, beq_iff_eq] at hf
    obtain ⟨l⟩ := cs
    match l, hf with
    | [a, b], _ =>
      unfold Program.keyLits at h
      rw [Try.underlying67, Try.cellsR, hm] at h
      obtain ⟨ls, hls, rfl⟩ := Option.map_eq_some_iff.1 h
      have h2 := (Option.ite_none_right_eq_some.1 hls).2
      obtain ⟨ll, h3, rfl⟩ := Option.map_eq_some_iff.1 h2
      simp only [Value.cells, List.mapM_cons, List.mapM_nil, List.drop_zero, List.drop_succ_cons, Try.cellsI, List.take_succ_cons, List.take_zero, bind, pure] at h3
      cases h1 : Try.prog.keyLits (m + 1) 3 [a] with
      | none => rw [h1] at h3; cases h3
      | some y1 =>
        cases h5 : Try.prog.keyLits (m + 1) 3 [b] with
        | none => rw [h1, h5] at h3; cases h3
        | some y2 =>
          rw [h1, h5] at h3
          obtain ⟨k, rfl, rfl, hk⟩ := kl_int h1
          obtain ⟨w, rfl, rfl, hw⟩ := kl_int h5
          injection h3 with h3
          exact ⟨k, w, rfl, by rw [← h3]; rfl, hk, hw⟩
  · cases h
theorem rkL_inj {k w k' w' : Int} (hk : In64 k) (hw : In64 w) (hk' : In64 k') (hw' : In64 w') (h : rkL k w = rkL k' w') : k = k' ∧ w = w' := by
  have := Try.keyR.inj (rkL_of hk hw) (h ▸ rkL_of hk' hw')
  simpa [rkV] using this
theorem rkL_key (k w : Int) : WideAt.IsKeyLit (rkL k w) := trivial

/-! ### Maps that read as functions -/
/-- The vote of a node of whatever number. -/
def fat (f : Nat → Option Int) (j : Int) : Option Int := if j < 0 then none else f j.toNat
theorem fat_nat (f : Nat → Option Int) (i : Nat) : fat f (i : Int) = f i := by unfold fat; rw [if_neg (by omega)]; simp
/-- A map of numbers by nodes. -/
def InM (D : DataW Value) (f : Nat → Option Int) : Prop :=
  Maps.IsMap D ∧ ∀ j : Int, In64 j → Maps.has D (.int .i64 j) = (fat f j).isSome ∧ D.atKey (.int .i64 j) (.held (.int .i64 0)) = .held (.int .i64 ((fat f j).getD 0))
theorem InM.nil : InM (.map []) fun _ => none :=
  ⟨Maps.isMap_empty, fun j _ => by
    have : fat (fun _ => none) j = none := by unfold fat; split <;> rfl
    rw [this]; exact ⟨rfl, rfl⟩⟩
theorem litI_ne {a b : Int} (h : a ≠ b) : (Lit.int .i64 a) ≠ Lit.int .i64 b := fun e => by injection e with _ e; exact h e
theorem InM.put {D : DataW Value} {f : Nat → Option Int} (h : InM D f) (i : Nat) (x : Int) : InM (D.put (.int .i64 (i : Int)) (.held (.int .i64 x))) fun j => if j = i then some x else f j := by
  refine ⟨h.1.put _ _, fun j hj => ?_⟩
  by_cases e : j = (i : Int)
  · subst e
    rw [Maps.has_put_same h.1 (by trivial), Maps.atKey_put_same h.1 (by trivial), fat_nat]
    simp
  · rw [Maps.has_put_other (litI_ne e), Maps.atKey_put_other (litI_ne e)]
    have : fat (fun j => if j = i then some x else f j) j = fat f j := by
      unfold fat
      split
      · rfl
      · show (if j.toNat = i then some x else f j.toNat) = f j.toNat
        rw [if_neg (by omega)]
    rw [this]; exact h.2 j hj
/-- The map mb, or none at all, reads as f. -/
def InR (N : Nat) (w : World) (mb : Option Nat) (f : Nat → Option Int) : Prop := match mb with
  | none => ∀ i, f i = none
  | some b => ∃ (n : Nat) (D : DataW Value), n ≤ N ∧ w.ownsMap Try.prog 3 tok b n D ∧ InM D f
theorem InR.mod {N : Nat} {F : Nat → Prop} {w w' : World} {mb : Option Nat} {f : Nat → Option Int} (h : InR N w mb f) (hm : Mod F w w') (hn : ∀ b, mb = some b → ¬ F b) : InR N w' mb f := by
  cases mb with
  | none => exact h
  | some b => obtain ⟨n, D, h0, h1, h2⟩ := h; exact ⟨n, D, h0, ownsMap_mod h1 hm (hn b rfl), h2⟩
theorem InR.ext {N : Nat} {w w' : World} {mb : Option Nat} {f : Nat → Option Int} (h : InR N w mb f) (he : Ext w w') : InR N w' mb f := h.mod (he.mod fun _ => False) fun _ _ => id
theorem InR.more {N N' : Nat} {w : World} {mb : Option Nat} {f : Nat → Option Int} (h : InR N w mb f) (hN : N ≤ N') : InR N' w mb f := by
  cases mb with
  | none => exact h
  | some b => obtain ⟨n, D, h0, h1, h2⟩ := h; exact ⟨n, D, by omega, h1, h2⟩

/-! ### The object -/
/-- What can be in a table, of so many nodes. -/
def TabOk (T : Tab) (n : Nat) : Prop := ∀ k w i x, T k w i = some x → (k = 4 ∨ k = 5) ∧ (0 ≤ w ∧ w ≤ 1000) ∧ i < n ∧ -1 ≤ x ∧ x ≤ 9223372036854775807
/-- The map of maps: block g holds m, by kind and view. -/
structure RndM (D : DataW Value) (m : Int → Int → Option Nat) : Prop where
  map : Maps.IsMap D
  get : ∀ k v, In64 k → In64 v → Maps.has D (rkL k v) = (m k v).isSome ∧ D.atKey (rkL k v) (.held (.map none)) = .held (.map (m k v))
  dom : ∀ k v, m k v ≠ none → (k = 4 ∨ k = 5) ∧ 0 ≤ v ∧ v ≤ 1000
  inj : ∀ k v k' v' b, m k v = some b → m k' v' = some b → k = k' ∧ v = v'
theorem RndM.in64 {D : DataW Value} {m : Int → Int → Option Nat} (h : RndM D m) {k v : Int} (hm : m k v ≠ none) : In64 k ∧ In64 v := by
  have := h.dom k v hm
  unfold In64; omega
theorem RndM.nil : RndM (.map []) fun _ _ => none :=
  ⟨Maps.isMap_empty, fun _ _ _ _ => ⟨rfl, rfl⟩, fun _ _ h => absurd rfl h, fun _ _ _ _ _ h => nomatch h⟩
/-- The tally at p: its stakes sv, its map at g; all its blocks in X. -/
structure TalW (X : Nat → Prop) (w : World) (p : Nat) (sv : Value) (g : Nat) (D : DataW Value) (m : Int → Int → Option Nat) (t : List Int) (T : Tab) (N : Nat) : Prop where
  obj : Fs w p [sv, .map (some g)]
  stk : Ints w sv t
  sto : ∀ k, sv.ownBlock = some k → X k ∧ k < w.heap.size ∧ k ≠ p ∧ k ≠ g
  xp : X p ∧ X g ∧ p ≠ g
  own : w.ownsMap Try.prog 67 tok g N D
  rnd : RndM D m
  inn : ∀ k v, InR N w (m k v) (T k v)
  sep : ∀ k v b, m k v = some b → X b ∧ b < w.heap.size ∧ b ≠ p ∧ b ≠ g ∧ sv.ownBlock ≠ some b
  ok : TabOk T t.length
  st : StOk t
section
variable {X Y F : Nat → Prop} {w w' : World} {p g : Nat} {sv : Value} {D : DataW Value} {m : Int → Int → Option Nat} {t : List Int} {T : Tab} {N : Nat}
theorem ints_mod (h : Ints w sv t) (hm : Mod F w w') (hn : ∀ k, sv.ownBlock = some k → ¬ F k) : Ints w' sv t := Sl.mod h hm hn
theorem TalW.mod (h : TalW X w p sv g D m t T N) (hm : Mod F w w') (hX : ∀ k, X k → ¬ F k) : TalW X w' p sv g D m t T N where
  obj := h.obj.mod hm (hX p h.xp.1)
  stk := ints_mod h.stk hm fun k hk => hX k (h.sto k hk).1
  sto := fun k hk => ⟨(h.sto k hk).1, Nat.lt_of_lt_of_le (h.sto k hk).2.1 hm.size, (h.sto k hk).2.2⟩
  xp := h.xp
  own := ownsMap_mod h.own hm (hX g h.xp.2.1)
  rnd := h.rnd
  inn := fun k v => (h.inn k v).mod hm fun b hb => hX b (h.sep k v b hb).1
  sep := fun k v b hb => ⟨(h.sep k v b hb).1, Nat.lt_of_lt_of_le (h.sep k v b hb).2.1 hm.size, (h.sep k v b hb).2.2⟩
  ok := h.ok
  st := h.st
theorem TalW.ext (h : TalW X w p sv g D m t T N) (he : Ext w w') : TalW X w' p sv g D m t T N := h.mod (he.mod fun _ => False) fun _ _ => id
theorem TalW.mono (h : TalW X w p sv g D m t T N) (hs : ∀ k, X k → Y k) : TalW Y w p sv g D m t T N :=
  ⟨h.obj, h.stk, fun k hk => ⟨hs k (h.sto k hk).1, (h.sto k hk).2⟩, ⟨hs p h.xp.1, hs g h.xp.2.1, h.xp.2.2⟩, h.own, h.rnd, h.inn, fun k v b hb => ⟨hs b (h.sep k v b hb).1, (h.sep k v b hb).2⟩, h.ok, h.st⟩
end
theorem TabOk.put {T : Tab} {n : Nat} (h : TabOk T n) {k v x : Int} {i : Nat} (hk : k = 4 ∨ k = 5) (hv : 0 ≤ v ∧ v ≤ 1000) (hi : i < n) (hx : -1 ≤ x ∧ x ≤ 9223372036854775807) : TabOk (fun k' v' i' => if k' = k ∧ v' = v ∧ i' = i then some x else T k' v' i') n := by
  intro k' v' i' x' hc
  simp only at hc
  split at hc
  · rename_i e
    obtain ⟨rfl, rfl, rfl⟩ := e
    injection hc with hc
    subst hc
    exact ⟨hk, hv, hi, hx⟩
  · exact h k' v' i' x' hc
section
variable {X Y F : Nat → Prop} {w w' w'' : World} {p g b : Nat} {sv : Value} {D : DataW Value} {m : Int → Int → Option Nat} {t : List Int} {T : Tab} {N : Nat} {k v x : Int} {i : Nat}
/-- A kind and a view in which nobody has voted so far gets a map of its own. -/
theorem TalW.begin (h : TalW X w p sv g D m t T N) (hm : m k v = none) (hk : k = 4 ∨ k = 5) (hv : 0 ≤ v ∧ v ≤ 1000) (he : Ext w w') (hb : w.heap.size ≤ b) (hbl : b < w'.heap.size)
    (hmd : Mod (fun j => j = g) w' w'') (hnew : w''.ownsMap Try.prog 3 tok b 0 (.map [])) (hown : w''.ownsMap Try.prog 67 tok g (N + 1) (D.put (rkL k v) (.held (.map (some b))))) :
    TalW (fun j => X j ∨ j = b) w'' p sv g (D.put (rkL k v) (.held (.map (some b)))) (fun k' v' => if k' = k ∧ v' = v then some b else m k' v') t T (N + 1) := by
  have h1 := h.ext he
  have hgl := h1.own.lt
  have hbg : b ≠ g := fun e => by have := h.own.lt; omega
  have hbp : b ≠ p := fun e => by have := h.obj.lt; omega
  have hs := hmd.size
  have hk64 : In64 k := by unfold In64; omega
  have hv64 : In64 v := by unfold In64; omega
  have hT : ∀ i, T k v i = none := by have := h.inn k v; rw [hm] at this; exact this
  refine ⟨h1.obj.mod hmd h.xp.2.2, ints_mod h1.stk hmd fun j hj => (h.sto j hj).2.2.2, fun j hj => ?_, ⟨.inl h.xp.1, .inl h.xp.2.1, h.xp.2.2⟩, hown, ⟨h.rnd.map.put _ _, ?_, ?_, ?_⟩, ?_, ?_, h.ok, h.st⟩
  · have := h1.sto j hj
    exact ⟨.inl this.1, by omega, this.2.2⟩
  · intro k' v' hk' hv'
    by_cases e : k' = k ∧ v' = v
    · obtain ⟨rfl, rfl⟩ := e
      rw [Maps.has_put_same h.rnd.map (rkL_key _ _), Maps.atKey_put_same h.rnd.map (rkL_key _ _), if_pos ⟨rfl, rfl⟩]
      exact ⟨rfl, rfl⟩
    · have hne : rkL k' v' ≠ rkL k v := fun he => e (rkL_inj hk' hv' hk64 hv64 he)
      rw [Maps.has_put_other hne, Maps.atKey_put_other hne, if_neg e]
      exact h.rnd.get k' v' hk' hv'
  · intro k' v' hne
    split at hne
    · rename_i e; rw [e.1, e.2]; exact ⟨hk, hv⟩
    · exact h.rnd.dom k' v' hne
  · intro k1 v1 k2 v2 b' h1' h2'
    have old : ∀ k' v', m k' v' = some b' → b' ≠ b := fun k' v' he e => by have := (h.sep k' v' b' he).2.1; omega
    split at h1' <;> split at h2'
    · rename_i e1 e2; rw [e1.1, e1.2, e2.1, e2.2]; exact ⟨rfl, rfl⟩
    · injection h1' with e; exact absurd e.symm (old _ _ h2')
    · injection h2' with e; exact absurd e.symm (old _ _ h1')
    · exact h.rnd.inj _ _ _ _ _ h1' h2'
  · intro k' v'
    show InR (N + 1) w'' (if k' = k ∧ v' = v then some b else m k' v') (T k' v')
    split
    · rename_i e
      rw [e.1, e.2]
      refine ⟨0, _, by omega, hnew, ?_⟩
      have : T k v = fun _ => none := funext hT
      rw [this]; exact InM.nil
    · exact ((h1.inn k' v').mod hmd fun b' hb' => (h.sep k' v' b' hb').2.2.2.1).more (by omega)
  · intro k' v' b' hb'
    split at hb'
    · injection hb' with e
      subst e
      exact ⟨.inr rfl, by omega, hbp, hbg, fun hc => by have := (h.sto _ hc).2.1; omega⟩
    · have := h1.sep k' v' b' hb'
      exact ⟨.inl this.1, by omega, this.2.2⟩
/-- One more vote, in a kind and view that has its map. -/
theorem TalW.vote (h : TalW X w p sv g D m t T N) (hm : m k v = some b) (hk : k = 4 ∨ k = 5) (hv : 0 ≤ v ∧ v ≤ 1000) (hi : i < t.length) (hx : -1 ≤ x ∧ x ≤ 9223372036854775807)
    (hmd : Mod (fun j => j = b) w w') {n N' : Nat} {D' : DataW Value} (hNN : N ≤ N') (hn : n ≤ N') (hown : w'.ownsMap Try.prog 3 tok b n (D'.put (.int .i64 (i : Int)) (.held (.int .i64 x)))) (hin : InM D' (T k v)) :
    TalW X w' p sv g D m t (fun k' v' i' => if k' = k ∧ v' = v ∧ i' = i then some x else T k' v' i') N' := by
  have hsp := h.sep k v b hm
  have hs := hmd.size
  refine ⟨h.obj.mod hmd (Ne.symm hsp.2.2.1), ints_mod h.stk hmd fun j hj e => hsp.2.2.2.2 (by rw [hj, e]), fun j hj => ⟨(h.sto j hj).1, by have := (h.sto j hj).2.1; omega, (h.sto j hj).2.2⟩, h.xp, (ownsMap_mod h.own hmd (Ne.symm hsp.2.2.2.1)).mono (by omega), h.rnd, ?_, fun k' v' b' hb' => ⟨(h.sep k' v' b' hb').1, by have := (h.sep k' v' b' hb').2.1; omega, (h.sep k' v' b' hb').2.2⟩, h.ok.put hk hv hi hx, h.st⟩
  intro k' v'
  by_cases e : k' = k ∧ v' = v
  · obtain ⟨rfl, rfl⟩ := e
    rw [hm]
    refine ⟨n, _, hn, hown, ?_⟩
    have : (fun i' => if k' = k' ∧ v' = v' ∧ i' = i then some x else T k' v' i') = fun j => if j = i then some x else T k' v' j := by funext j; simp
    rw [this]; exact hin.put i x
  · have : (fun i' => if k' = k ∧ v' = v ∧ i' = i then some x else T k' v' i') = T k' v' := by
      funext j; rw [if_neg fun hc => e ⟨hc.1, hc.2.1⟩]
    show InR N' w' (m k' v') (fun i' => if k' = k ∧ v' = v ∧ i' = i then some x else T k' v' i')
    rw [this]
    exact ((h.inn k' v').mod hmd fun b' hb' he => by subst he; exact e (h.rnd.inj _ _ _ _ _ hb' hm)).more (by omega)
end
/-- The tally at p, all of whose blocks are in X: of these stakes and this table, behind N votes at most. -/
def Tal (X : Nat → Prop) (w : World) (p : Nat) (t : List Int) (T : Tab) (N : Nat) : Prop := ∃ sv g D m, TalW X w p sv g D m t T N
section
variable {X Y F : Nat → Prop} {w w' : World} {p : Nat} {t : List Int} {T : Tab} {N : Nat}
theorem Tal.mod (h : Tal X w p t T N) (hm : Mod F w w') (hX : ∀ k, X k → ¬ F k) : Tal X w' p t T N := by obtain ⟨sv, g, D, m, h⟩ := h; exact ⟨sv, g, D, m, h.mod hm hX⟩
theorem Tal.ext (h : Tal X w p t T N) (he : Ext w w') : Tal X w' p t T N := h.mod (he.mod fun _ => False) fun _ _ => id
theorem Tal.mono (h : Tal X w p t T N) (hs : ∀ k, X k → Y k) : Tal Y w p t T N := by obtain ⟨sv, g, D, m, h⟩ := h; exact ⟨sv, g, D, m, h.mono hs⟩
theorem Tal.ok (h : Tal X w p t T N) : TabOk T t.length := by obtain ⟨sv, g, D, m, h⟩ := h; exact h.ok
theorem Tal.st (h : Tal X w p t T N) : StOk t := by obtain ⟨sv, g, D, m, h⟩ := h; exact h.st
end
theorem Try.stTal : St Try.prog 55 2 [.slice none 0 0, .map none] := St.of (by kernel_rfl) (by kernel_rfl) rfl
theorem Try.stRnd : St Try.prog 67 2 [.int .i64 0, .int .i64 0] := St.of (by kernel_rfl) (by kernel_rfl) rfl
theorem zeroM (w : World) : (zeroValue 65).run Try.prog w = .ok (.map none) w := by kernel_rfl
theorem zeroI (w : World) : (zeroValue 3).run Try.prog w = .ok (.int .i64 0) w := by kernel_rfl
section
variable {ops : Array Oper} {rest : List Oper} {o : Oper} {a : Act} {Q : Exit → Act → World → Prop} {w : World} {ρ : Operand → Value}
/-- m[round{k, v}] -/
theorem runs_rlook (x y : Operand) {g N : Nat} {D : DataW Value} {m : Int → Int → Option Nat} {k v : Int} (ho : o.op = Op.lookup 53 x y false) (hx : ρ x = .map (some g)) (hy : ρ y = rkV k v)
    (hk : In64 k) (hv : In64 v) (h : w.ownsMap Try.prog 67 tok g N D) (hr : RndM D m) : Runs Try.prog o ρ w (.map (m k v)) := by
  obtain ⟨u, ps, h1, h2⟩ := h.lookup Try.keyR Try.underlying53 (zeroM w) (zd := .held (.map none)) (zp := []) rfl (rkL_of hk hv)
  rw [(hr.get k v hk hv).2] at h2
  obtain ⟨rfl, _⟩ : u = .map (m k v) ∧ ps = [] := by simpa [tok] using h2
  unfold Runs execOp
  simp [ho, hx, hy, h1]
/-- u, ok := mb[j] -/
theorem runs_ilook (x y : Operand) {mb : Option Nat} {f : Nat → Option Int} {j : Int} (ho : o.op = Op.lookup 65 x y true) (hx : ρ x = .map mb) (hy : ρ y = .int .i64 j)
    {N : Nat} (hj : In64 j) (h : InR N w mb f) : Runs Try.prog o ρ w (.tuple #[.int .i64 ((fat f j).getD 0), .bool (fat f j).isSome]) := by
  have hkey : keyOf Try.prog 3 (.int .i64 j) = some (.int .i64 j) := Maps.keyOf_int_mk Try.underlying3 hj.wf
  cases mb with
  | none =>
    have hf : fat f j = none := by unfold fat; split; rfl; exact h _
    have hc := Try.keyI.check w true hkey
    unfold Runs execOp
    simp [ho, hx, hy, hf, Instr.lookup, run_underlying Try.underlying65, hc]
    rcases Try.keyI.find w hkey [] (by simp) with ⟨h1, _⟩ | ⟨_, _, _, h1, _⟩
    · simp [h1]
    · simp at h1
  | some b =>
    obtain ⟨n, D, _, h1, h2⟩ := h
    obtain ⟨u, ps, h3, h4⟩ := h1.look_ok Try.keyI Try.underlying65 (zeroI w) (zd := .held (.int .i64 0)) (zp := []) rfl hkey
    rw [(h2.2 j hj).2] at h4
    obtain ⟨rfl, _⟩ : u = .int .i64 ((fat f j).getD 0) ∧ ps = [] := by simpa [tok] using h4
    rw [(h2.2 j hj).1] at h3
    unfold Runs execOp
    simp [ho, hx, hy, h3]
theorem w_rlook (x y : Operand) {g N : Nat} {D : DataW Value} {m : Int → Int → Option Nat} {k v : Int} (hgd : o.guard = none) (ho : o.op = Op.lookup 53 x y false) (hx : a.eval x = .map (some g)) (hy : a.eval y = rkV k v)
    (hk : In64 k) (hv : In64 v) (h : w.ownsMap Try.prog 67 tok g N D) (hr : RndM D m) (kk : wpList Try.prog ops Q rest (a.put o.dst (.map (m k v))) w) : wpList Try.prog ops Q (o :: rest) a w :=
  wpList_runs hgd (runs_rlook x y ho hx hy hk hv h hr) kk
theorem w_ilook (x y : Operand) {mb : Option Nat} {f : Nat → Option Int} {j : Int} (hgd : o.guard = none) (ho : o.op = Op.lookup 65 x y true) (hx : a.eval x = .map mb) (hy : a.eval y = .int .i64 j)
    {N : Nat} (hj : In64 j) (h : InR N w mb f) {r : Option Int} (hr : fat f j = r) (kk : wpList Try.prog ops Q rest (a.put o.dst (.tuple #[.int .i64 (r.getD 0), .bool r.isSome])) w) : wpList Try.prog ops Q (o :: rest) a w := by
  subst hr
  exact wpList_runs hgd (runs_ilook x y ho hx hy hj h) kk
end
end Go.Proofs.Ytmhmkaginnddeaa
