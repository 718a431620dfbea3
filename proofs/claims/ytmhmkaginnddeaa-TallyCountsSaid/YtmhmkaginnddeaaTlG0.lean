/- The set of those who have voted from a view on; a result that lies in a block. -/
import Derived.Test.YtmhmkaginnddeaaTlF
namespace Go.Proofs.Ytmhmkaginnddeaa
set_option maxRecDepth 100000
open Go.RowKit

/-! ### A result in a block of its own -/
theorem results_cell1 {P : Program} {fn : Func} {p : Tmp} {ty : TypeId} {tmps : Array Value} {w : World} {g : Nat} {z : Value} (h : fn.results = #[.cell p ty]) (hp : tmps.getD p undef = .pointer (some ⟨g, 0, none⟩)) (ha : (isAgg ty).run P w = .ok false w) (hf : Fs w g [z]) :
    (results fn tmps).run P w = .ok z w := by
  have hc := hf.cell (i := 0) rfl
  have hp' : tmps[p]?.getD undef = .pointer (some ⟨g, 0, none⟩) := by simpa using hp
  simp only [results, h]
  simp [hp', go_sem, ha, hc]
theorem Mod.thenE {F : Nat → Prop} {a b c : World} (h : Mod F a b) (k : Ext b c) : Mod F a c := h.trans (k.mod F) fun _ _ h => h
theorem Mod.thenM {F : Nat → Prop} {a b c : World} (h : Mod F a b) (k : Mod F b c) : Mod F a c := h.trans k fun _ _ h => h
theorem Mod.thenB {F : Nat → Prop} {a b c : World} (h : Mod F a b) (k : Below a.heap.size b c) : Mod F a c := h.trans (Below.toMod k) fun i hi hj => absurd hi (by have hj' : a.heap.size ≤ i := hj; omega)

/-! ### A set of nodes -/
/-- Block b is a map that has those of the first n nodes of which q is so. -/
def ThereIs (w : World) (b n : Nat) (q : Nat → Bool) (c : Nat) : Prop := ∃ D, w.ownsMap Try.prog 3 tok b c D ∧ Maps.IsMap D ∧ ∀ x : Int, In64 x → Maps.has D (.int .i64 x) = decide (x ∈ picks q n)
section
variable {w w' : World} {b n c : Nat} {q q' : Nat → Bool} {F : Nat → Prop}
theorem ThereIs.mod (h : ThereIs w b n q c) (hm : Mod F w w') (hb : ¬ F b) : ThereIs w' b n q c := by obtain ⟨D, h1, h2, h3⟩ := h; exact ⟨D, ownsMap_mod h1 hm hb, h2, h3⟩
theorem ThereIs.ext (h : ThereIs w b n q c) (he : Ext w w') : ThereIs w' b n q c := h.mod (he.mod fun _ => False) id
theorem ThereIs.lt (h : ThereIs w b n q c) : b < w.heap.size := by obtain ⟨D, h1, _⟩ := h; exact h1.lt
theorem ThereIs.below (h : ThereIs w b n q c) {B : Nat} (hb : Below B w w') (hl : b < B) : ThereIs w' b n q c := h.mod (Below.toMod hb) fun hj => absurd hl (by have hj' : B ≤ b := hj; omega)
theorem ThereIs.nil (h : w.ownsMap Try.prog 3 tok b 0 (.map [])) (hq : ∀ i, i < n → q i = false) : ThereIs w b n q 0 :=
  ⟨_, h, Maps.isMap_empty, fun x _ => (decide_eq_false fun hx => by
    obtain ⟨i, hi, hp, _⟩ := mem_picks.1 hx
    rw [hq i hi] at hp; cases hp).symm⟩
theorem ThereIs.congr (h : ThereIs w b n q c) (hq : ∀ i, i < n → q i = q' i) : ThereIs w b n q' c := by
  obtain ⟨D, h1, h2, h3⟩ := h
  refine ⟨D, h1, h2, fun x hx => (h3 x hx).trans (decide_eq_decide.2 ?_)⟩
  rw [mem_picks, mem_picks]
  exact ⟨fun ⟨i, hi, hp, e⟩ => ⟨i, hi, by rw [← hq i hi]; exact hp, e⟩, fun ⟨i, hi, hp, e⟩ => ⟨i, hi, by rw [hq i hi]; exact hp, e⟩⟩
theorem has_put {D : DataW Value} (h : Maps.IsMap D) {i : Nat} {v : DataW Value} (hin : i < n) (hq : ∀ x : Int, In64 x → Maps.has D (.int .i64 x) = decide (x ∈ picks q n)) (hq' : ∀ j, j < n → q' j = (q j || decide (j = i))) :
    ∀ x : Int, In64 x → Maps.has (D.put (.int .i64 (i : Int)) v) (.int .i64 x) = decide (x ∈ picks q' n) := by
  intro x hx
  by_cases e : x = (i : Int)
  · subst e
    rw [Maps.has_put_same h (by trivial)]
    exact (decide_eq_true (mem_picks.2 ⟨i, hin, by rw [hq' i hin]; simp, rfl⟩)).symm
  · rw [Maps.has_put_other (litI_ne e), hq x hx]
    refine decide_eq_decide.2 ?_
    rw [mem_picks, mem_picks]
    constructor
    · rintro ⟨j, hj, hp, rfl⟩
      exact ⟨j, hj, by rw [hq' j hj, hp]; rfl, rfl⟩
    · rintro ⟨j, hj, hp, rfl⟩
      rw [hq' j hj] at hp
      have : decide (j = i) = false := decide_eq_false fun h => e (by rw [h])
      rw [this, Bool.or_false] at hp
      exact ⟨j, hj, hp, rfl⟩
end
/-- What maps.Keys gives of the set. -/
def Sp.keysU (b : Nat) : Sp := .any (fun v w => ∃ gb, v = .func (.func 47) #[] #[.pointer (some ⟨gb, 0, none⟩)] ∧ Fs w gb [.map (some b)]) fun _ _ _ ⟨gb, h1, h2⟩ he => ⟨gb, h1, h2.ext he⟩
theorem keysR (b : Nat) (w : World) : Calls Try.prog 35 #[.map (some b)] w fun e w' => ∃ z, e = .returned z ∧ Ext w w' ∧ (Sp.keysU b).p z w' := by
  refine (KeysU_any _ _).mono ?_
  rintro e w' ⟨gb, rfl, hf, _, hx⟩
  exact ⟨_, rfl, hx, gb, rfl, hf⟩
theorem sortR {w : World} {v : Value} {b n c : Nat} {q : Nat → Bool} (hv : (Sp.keysU b).p v w) (h : ThereIs w b n q c) (hc : c ≤ 20000) (hn : n ≤ 7) : Calls Try.prog 34 #[v] w fun e w' => ∃ z, e = .returned z ∧ Ext w w' ∧ (Sp.ints (picks q n)).p z w' := by
  obtain ⟨gb, rfl, hf⟩ := hv
  obtain ⟨D, h1, _, h3⟩ := h
  refine (SortedU_any hf h1 hc).mono ?_
  rintro e w' ⟨z, l, rfl, o, hr, hm, hx⟩
  have : l = picks q n := Rise.eq hr (rise_picks _ _) fun x => by
    rw [hm]
    constructor
    · intro hh
      have := h3 x (has_in64 h1 hh)
      rw [hh] at this
      exact of_decide_eq_true this.symm
    · intro hh
      have hwf := picks_wf q n x hh
      rw [h3 x (by unfold In64; omega)]
      exact decide_eq_true hh
  subst this
  exact ⟨z, rfl, hx, o.ints⟩
theorem someR {w : World} {sv u : Value} {t L : List Int} (h : Asked w sv u t L) {q : Bool} (hq : some3 t L = q) : Calls Try.prog 33 #[sv, u] w fun e w' => ∃ z, e = .returned z ∧ Ext w w' ∧ Sp.p (.val (.bool q)) z w' := by
  refine (Some_of h).mono ?_
  rintro e w' ⟨rfl, hx⟩
  exact ⟨_, rfl, hx, by rw [hq]; rfl⟩
/-- Of the (k+1)-th view a kinds have been looked at. -/
def qa (T : Tab) (U : List Int) (k a : Nat) (x : Int) (i : Nat) : Bool := inV T U k i || ((decide (1 ≤ a) && T.any 4 x i) || (decide (2 ≤ a) && T.any 5 x i))
theorem qa_zero (T : Tab) (U : List Int) (k : Nat) (x : Int) (i : Nat) : inV T U k i = qa T U k 0 x i := by simp [qa]
theorem qa_two (T : Tab) (U : List Int) (k : Nat) {x : Int} (hx : U.getD k 0 = x) (i : Nat) : qa T U k 2 x i = inV T U (k + 1) i := by rw [inV_succ, hx]; simp [qa]
theorem qa_succ (T : Tab) (U : List Int) (k : Nat) {a : Nat} (x : Int) {kd : Int} (ha : a < 2) (hkd : ([4, 5] : List Int)[a]? = some kd) (i : Nat) : (qa T U k a x i || T.any kd x i) = qa T U k (a + 1) x i := by
  rcases (show a = 0 ∨ a = 1 by omega) with rfl | rfl
  · injection hkd with hkd
    subst hkd
    simp [qa]
  · injection hkd with hkd
    subst hkd
    simp [qa, Bool.or_assoc]
/-- Of a list of nodes i have been looked at. -/
def qi (q : Nat → Bool) (L : List Int) (i j : Nat) : Bool := q j || decide ((j : Int) ∈ L.take i)
theorem qi_zero (q : Nat → Bool) (L : List Int) (j : Nat) : q j = qi q L 0 j := by simp [qi]
theorem qi_succ (q : Nat → Bool) {L : List Int} {i nd : Nat} (hi : i < L.length) (h : L[i] = (nd : Int)) (j : Nat) : qi q L (i + 1) j = (qi q L i j || decide (j = nd)) := by
  unfold qi
  rw [List.take_add_one, List.getElem?_eq_getElem hi, h, Bool.or_assoc]
  congr 1
  rw [Bool.eq_iff_iff]
  simp only [Option.toList_some, List.mem_append, List.mem_singleton, Bool.or_eq_true, decide_eq_true_eq]
  rw [Int.ofNat_inj]
theorem qi_all (q : Nat → Bool) {p : Nat → Bool} {n j : Nat} (hj : j < n) : qi q (picks p n) (picks p n).length j = (q j || p j) := by
  unfold qi
  congr 1
  rw [List.take_length, Bool.eq_iff_iff, decide_eq_true_iff, mem_picks]
  constructor
  · rintro ⟨i, hi, hp, e⟩
    have : j = i := by omega
    rw [this]; exact hp
  · intro hp; exact ⟨j, hj, hp, rfl⟩
end Go.Proofs.Ytmhmkaginnddeaa
