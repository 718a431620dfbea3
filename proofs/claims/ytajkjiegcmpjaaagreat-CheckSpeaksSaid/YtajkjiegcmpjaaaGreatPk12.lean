/- How many entries maps have at most; the object that is a core; the object that is a turn of it. · What a core tells of itself, and what it asks of itself, reading alone. · A region that draws its order, by an invariant of its states: what is told of the slots and of the memory when some of its operations have come up, whichever; each operation that may come up keeps it. For regions in which an operation writes to what the region itself made. · A region that draws its order in which all operations but two only add memory and tell of values alone; the two are the making of a variable and the store of what was told to it (x, ok := f(g(y))). · A region that draws its order in which some operations, each waiting for the one before, change or make what the memory tells (a chain), while the others tell of values alone: 'p.f = g(p.f, []T{x}..)' in whichever order. -/
import Derived.Test.YtajkjiegcmpjaaaGreatPk09
import Derived.Test.YtajkjiegcmpjaaaGreatPk11
import Derived.Test.YtajkjiegcmpjaaaGreatPk03
namespace Go.Proofs.YtajkjiegcmpjaaaGreat
set_option maxRecDepth 100000
open Go.RowKit
theorem size_le_of {w : World} {k : TypeId} {b n : Nat} {D : DataW Value} (h : w.ownsMap Tryz.prog k tok b n D) (K : Maps.Keyed Tryz.prog k) (C : List Go.Lit) (hC : ∀ key l, keyOf Tryz.prog k key = some l → Maps.has D l = true → l ∈ C) : Maps.size D ≤ C.length := by
  obtain ⟨es, hD, hap, _⟩ := h.entries K
  subst hD
  have hk : ∀ p ∈ es, p.1 ∈ C := fun p hp => by
    obtain ⟨es', clock, hb', G, hs', hD'⟩ := h
    have hp' := hp
    injection hD' with hD'
    rw [hD'] at hp'
    obtain ⟨e, he, rfl⟩ := List.mem_map.1 (mem_sorted.1 hp')
    obtain ⟨y, hy⟩ := G.reads e he
    rw [WideElems.rg_of hy] at hp ⊢
    refine hC _ _ (WideElems.rd_key hy) ?_
    rw [Maps.has_eq, List.any_eq_true]
    exact ⟨_, hp, by simpa using WideAt.sameKey_self (K.key (WideElems.rd_key hy))⟩
  have hnd : (es.map (·.1)).Nodup := by
    rw [List.nodup_iff_pairwise_ne, List.pairwise_map]
    exact hap
  have := hnd.length_le_of_subset (l₂ := C) fun x hx => by
    obtain ⟨p, hp, rfl⟩ := List.mem_map.1 hx
    exact hk p hp
  simpa [Maps.size] using this
theorem own_keep {w : World} {k : TypeId} {b n m : Nat} {D : DataW Value} (h : w.ownsMap Tryz.prog k tok b n D) (hm : Maps.size D ≤ m) : w.ownsMap Tryz.prog k tok b m D := (own_tight h).mono hm
def ints0 (m : Nat) : List Go.Lit := (List.range m).map fun i : Nat => .int .i64 (i : Int)
theorem mem_ints0 {m : Nat} {x : Int} (h0 : 0 ≤ x) (hx : x < (m : Int)) : (Lit.int .i64 x) ∈ ints0 m := List.mem_map.2 ⟨x.toNat, List.mem_range.2 (by omega), by rw [Int.toNat_of_nonneg h0]⟩
theorem size_int {w : World} {b n m : Nat} {D : DataW Value} (h : w.ownsMap Tryz.prog 3 tok b n D) (hb : ∀ x : Int, In64 x → Maps.has D (.int .i64 x) = true → 0 ≤ x ∧ x < (m : Int)) : Maps.size D ≤ m := by
  have := size_le_of h Tryz.keyI (ints0 m) fun key l hk hh => by
    obtain ⟨x, rfl, rfl, hw⟩ := Maps.keyOf_int_inv Tryz.underlying3 hk
    obtain ⟨h1, h2⟩ := hb x (wf_in hw) hh
    exact mem_ints0 h1 h2
  simpa [ints0] using this
noncomputable def rks0 : List Go.Lit := (List.range 1001).map (fun i : Nat => rkL 4 (i : Int)) ++ (List.range 1001).map (fun i : Nat => rkL 5 (i : Int))
theorem mem_rks0 {k v : Int} (hk : k = 4 ∨ k = 5) (hv : 0 ≤ v ∧ v ≤ 1000) : rkL k v ∈ rks0 := by
  have e : ((v.toNat : Nat) : Int) = v := Int.toNat_of_nonneg hv.1
  rcases hk with rfl | rfl
  · exact List.mem_append_left _ (List.mem_map.2 ⟨v.toNat, List.mem_range.2 (by omega), by rw [e]⟩)
  · exact List.mem_append_right _ (List.mem_map.2 ⟨v.toNat, List.mem_range.2 (by omega), by rw [e]⟩)
theorem size_rnd {w : World} {b n : Nat} {D : DataW Value} {m : Int → Int → Option Nat} (h : w.ownsMap Tryz.prog 112 tok b n D) (hR : RndM D m) : Maps.size D ≤ 2002 := by
  have := size_le_of h Tryz.keyR rks0 fun key l hk hh => by
    obtain ⟨k, v, rfl, rfl, h1, h2⟩ := keyR_inv hk
    rw [(hR.get k v h1 h2).1] at hh
    have hne : m k v ≠ none := fun e => by rw [e] at hh; cases hh
    obtain ⟨q1, q2⟩ := hR.dom k v hne
    exact mem_rks0 q1 q2
  exact Nat.le_trans this (by unfold rks0; simp)
theorem Tal.tight {X : Nat → Prop} {w : World} {p : Nat} {t : List Int} {T : Tab} {N : Nat} (h : Tal X w p t T N) : Tal X w p t T 2002 := by
  obtain ⟨sv, g, D, m, h⟩ := h
  refine ⟨sv, g, D, m, h.obj, h.stk, h.sto, h.xp, own_keep h.own (size_rnd h.own h.rnd), h.rnd, fun k v => ?_, h.sep, h.ok, h.st⟩
  have hi := h.inn k v
  cases hm : m k v with
  | none => rw [hm] at hi; exact hi
  | some b =>
    rw [hm] at hi
    obtain ⟨n, D', _, h1, h2⟩ := hi
    refine ⟨Maps.size D', D', ?_, own_tight h1, h2⟩
    refine Nat.le_trans (size_int h1 (m := 7) fun x hx hh => ?_) (by omega)
    rw [(h2.2 x hx).1] at hh
    obtain ⟨y, hy⟩ := Option.isSome_iff_exists.1 hh
    obtain ⟨i, rfl, hi, _⟩ := fat_some h.ok hy
    have := h.st.2.1
    omega
theorem addT_vadd (n : Nat) (T : Tab) (k v : Int) (i : Nat) (x : Int) : addT n T k v (i : Int) x = vadd n T k v i x ∧ addOk n T k v (i : Int) x = vok n T k v i x := by
  have e : (CanB k v x ∧ (0 ≤ (i : Int) ∧ (i : Int) < (n : Int)) ∧ fat (T k v) (i : Int) = none) ↔ (((k = 4 ∨ k = 5) ∧ (0 ≤ v ∧ v ≤ 1000) ∧ -1 ≤ x) ∧ i < n ∧ T k v i = none) := by
    rw [fat_nat]; unfold CanB
    constructor
    · rintro ⟨h1, h2, h3⟩; exact ⟨h1, by omega, h3⟩
    · rintro ⟨h1, h2, h3⟩; exact ⟨h1, by omega, h3⟩
  have ho : addOk n T k v (i : Int) x = vok n T k v i x := by unfold addOk vok; exact decide_eq_decide.2 e
  refine ⟨?_, ho⟩
  unfold addT vadd
  by_cases h : vok n T k v i x = true
  · rw [if_pos h, if_pos (e.2 (vok_iff.1 h))]
    funext k' v' i'; unfold putT vput; simp
  · rw [if_neg h, if_neg fun q => h (vok_iff.2 (e.1 q))]
structure Stp (lo hi : Nat) (S S' : Nat → Nat) (w w' : World) : Prop where
  mod : Mod (fun k => lo ≤ S k ∧ S k ≤ hi) w w'
  same : ∀ k, k < w.heap.size → S' k = S k
  bnd : ∀ k, S' k ≠ 0 → k < w'.heap.size
section
variable {lo hi : Nat} {S S' S'' : Nat → Nat} {w w' w'' : World}
theorem Stp.refl (hb : ∀ k, S k ≠ 0 → k < w.heap.size) : Stp lo hi S S w w := ⟨Mod.refl _ _, fun _ _ => rfl, hb⟩
theorem Stp.ofExt (he : Ext w w') (hb : ∀ k, S k ≠ 0 → k < w.heap.size) : Stp lo hi S S w w' := ⟨he.mod _, fun _ _ => rfl, fun k h => Nat.lt_of_lt_of_le (hb k h) he.size⟩
theorem Stp.ofMod {F : Nat → Prop} (hm : Mod F w w') (hF : ∀ k, F k → lo ≤ S k ∧ S k ≤ hi) (hb : ∀ k, S k ≠ 0 → k < w.heap.size) : Stp lo hi S S w w' := ⟨hm.mono fun k _ h => hF k h, fun _ _ => rfl, fun k h => Nat.lt_of_lt_of_le (hb k h) hm.size⟩
theorem Stp.trans (h : Stp lo hi S S' w w') (k : Stp lo hi S' S'' w' w'') : Stp lo hi S S'' w w'' :=
  ⟨h.mod.trans k.mod fun i hi q => by rw [h.same i hi] at q; exact q, fun i hi => (k.same i (Nat.lt_of_lt_of_le hi h.mod.size)).trans (h.same i hi), k.bnd⟩
theorem Stp.wide {lo' hi' : Nat} (h : Stp lo hi S S' w w') (h1 : lo' ≤ lo) (h2 : hi ≤ hi') : Stp lo' hi' S S' w w' := ⟨h.mod.mono fun k _ q => ⟨Nat.le_trans h1 q.1, Nat.le_trans q.2 h2⟩, h.same, h.bnd⟩
theorem Stp.size (h : Stp lo hi S S' w w') : w.heap.size ≤ w'.heap.size := h.mod.size
theorem Stp.off (h : Stp lo hi S S' w w') {l : Nat} (hl : l < lo ∨ hi < l) {k : Nat} (hk : S k = l) : ¬ (lo ≤ S k ∧ S k ≤ hi) := by rw [hk]; omega
end
def coRow (c : CoD) (sv dv : Value) (q gp gs : Nat) : List Value := [.int .i64 (c.me : Nat), sv, .int .i64 c.base, .int .i64 c.most, dv, .int .i64 c.tip, .int .i64 c.view, .int .i64 c.step, .int .i64 c.left, .pointer (some ⟨q, 0, none⟩), .map (some gp), .map (some gs), .int .i64 c.lv, .int .i64 c.lw, .int .i64 c.vv, .int .i64 c.vw]
structure CorW (S : Nat → Nat) (w : World) (p : Nat) (sv dv : Value) (q gp gs : Nat) (c : CoD) : Prop where
  obj : Fs w p (coRow c sv dv q gp gs)
  lab : S p = 1 ∧ S gp = 2 ∧ S gs = 3
  stk : Ints w sv c.t
  sto : ∀ k, sv.ownBlock = some k → S k = 6
  dec : Row (fun k => S k = 4) w 3 dv (i64s c.dec)
  tal : Tal (fun k => S k = 5) w q c.t c.T 2002
  prp : ∃ n D, n ≤ 1001 ∧ w.ownsMap Tryz.prog 3 tok gp n D ∧ PrM D c.prop
  sad : ∃ n D, n ≤ 7 ∧ w.ownsMap Tryz.prog 3 tok gs n D ∧ SdM D c.t.length c.said
  bnd : ∀ k, S k ≠ 0 → k < w.heap.size
  lft : 0 ≤ c.left ∧ c.left ≤ 1000000
  me : c.me < c.t.length
section
variable {S S' : Nat → Nat} {F : Nat → Prop} {w w' : World} {p q gp gs : Nat} {sv dv : Value} {c d : CoD}
theorem CorW.mod (h : CorW S w p sv dv q gp gs c) (hm : Mod F w w') (hF : ∀ k, 1 ≤ S k → S k ≤ 6 → ¬ F k) : CorW S w' p sv dv q gp gs c where
  obj := h.obj.mod hm (hF p (by rw [h.lab.1]; omega) (by rw [h.lab.1]; omega))
  lab := h.lab
  stk := ints_mod h.stk hm fun k hk => hF k (by rw [h.sto k hk]; omega) (by rw [h.sto k hk]; omega)
  sto := h.sto
  dec := h.dec.mod hm fun k hk => hF k (by rw [hk]; omega) (by rw [hk]; omega)
  tal := by
    obtain ⟨a, b, D, m, ht⟩ := h.tal
    exact ⟨a, b, D, m, ht.mod hm fun k hk => hF k (by rw [hk]; omega) (by rw [hk]; omega)⟩
  prp := by
    obtain ⟨n, D, h1, h2, h3⟩ := h.prp
    exact ⟨n, D, h1, ownsMap_mod h2 hm (hF gp (by rw [h.lab.2.1]; omega) (by rw [h.lab.2.1]; omega)), h3⟩
  sad := by
    obtain ⟨n, D, h1, h2, h3⟩ := h.sad
    exact ⟨n, D, h1, ownsMap_mod h2 hm (hF gs (by rw [h.lab.2.2]; omega) (by rw [h.lab.2.2]; omega)), h3⟩
  bnd := fun k hk => Nat.lt_of_lt_of_le (h.bnd k hk) hm.size
  lft := h.lft
  me := h.me
theorem CorW.ext (h : CorW S w p sv dv q gp gs c) (he : Ext w w') : CorW S w' p sv dv q gp gs c := h.mod (he.mod fun _ => False) fun _ _ _ => id
theorem CorW.relab (h : CorW S w p sv dv q gp gs c) (hs : ∀ k, 1 ≤ S k → S k ≤ 6 → S' k = S k) (hb : ∀ k, S' k ≠ 0 → k < w.heap.size) : CorW S' w p sv dv q gp gs c where
  obj := h.obj
  lab := ⟨by rw [hs p] <;> rw [h.lab.1] <;> omega, by rw [hs gp] <;> rw [h.lab.2.1] <;> omega, by rw [hs gs] <;> rw [h.lab.2.2] <;> omega⟩
  stk := h.stk
  sto := fun k hk => by have := h.sto k hk; rw [hs k] <;> omega
  dec := h.dec.mono fun k hk => by rw [hs k] <;> omega
  tal := by
    obtain ⟨a, b, D, m, ht⟩ := h.tal
    exact ⟨a, b, D, m, ht.mono fun k hk => by rw [hs k] <;> omega⟩
  prp := h.prp
  sad := h.sad
  bnd := hb
  lft := h.lft
  me := h.me
theorem CorW.cell (h : CorW S w p sv dv q gp gs c) (hm : Mod (fun k => k = p) w w') (f : Fs w' p (coRow d sv dv q gp gs)) (e : d.t = c.t ∧ d.dec = c.dec ∧ d.T = c.T ∧ d.prop = c.prop ∧ d.said = c.said ∧ d.me = c.me) (hl : 0 ≤ d.left ∧ d.left ≤ 1000000) : CorW S w' p sv dv q gp gs d := by
  obtain ⟨e1, e2, e3, e4, e5, e6⟩ := e
  have hne : ∀ {k l : Nat}, S k = l → l ≠ 1 → ¬ k = p := fun hk hl e => hl (by rw [← hk, e]; exact h.lab.1)
  refine ⟨f, h.lab, by rw [e1]; exact ints_mod h.stk hm fun k hk => hne (h.sto k hk) (by omega), h.sto, by rw [e2]; exact h.dec.mod hm fun k hk => hne hk (by omega), ?_, ?_, ?_, fun k hk => Nat.lt_of_lt_of_le (h.bnd k hk) hm.size, hl, by rw [e6, e1]; exact h.me⟩
  · obtain ⟨a, b, D, m, ht⟩ := h.tal
    rw [e1, e3]
    exact ⟨a, b, D, m, ht.mod hm fun k hk => hne hk (by omega)⟩
  · obtain ⟨n, D, h1, h2, h3⟩ := h.prp
    rw [e4]
    exact ⟨n, D, h1, ownsMap_mod h2 hm (hne h.lab.2.1 (by omega)), h3⟩
  · obtain ⟨n, D, h1, h2, h3⟩ := h.sad
    rw [e5, e1]
    exact ⟨n, D, h1, ownsMap_mod h2 hm (hne h.lab.2.2 (by omega)), h3⟩
theorem CorW.stpCell (h : CorW S w p sv dv q gp gs c) (hm : Mod (fun k => k = p) w w') : Stp 1 6 S S w w' := Stp.ofMod hm (fun k e => by subst e; rw [h.lab.1]; omega) h.bnd
theorem CorW.vote (h : CorW S w p sv dv q gp gs c) {X' : Nat → Prop} {T' : Tab} {N : Nat} (u : Upd (fun k => S k = 5) X' w w') (ht : Tal X' w' q c.t T' N) : ∃ S', CorW S' w' p sv dv q gp gs { c with T := T' } ∧ Stp 1 6 S S' w w' := by
  refine ⟨fun k => if k < w.heap.size then S k else if k < w'.heap.size then 5 else 0, ?_, u.mod.mono fun k _ e => by show 1 ≤ S k ∧ S k ≤ 6; rw [e]; omega, fun k hk => if_pos hk, fun k hk => ?_⟩
  · have hs : ∀ k l, S k = l → l ≠ 0 → (if k < w.heap.size then S k else if k < w'.heap.size then 5 else 0) = l := fun k l hk hl => by
      rw [if_pos (h.bnd k (by omega))]; exact hk
    have hne : ∀ {k l : Nat}, S k = l → l ≠ 5 → ¬ S k = 5 := fun hk hl e => hl (by omega)
    refine ⟨h.obj.mod u.mod (hne h.lab.1 (by omega)), ⟨hs _ _ h.lab.1 (by omega), hs _ _ h.lab.2.1 (by omega), hs _ _ h.lab.2.2 (by omega)⟩, ints_mod h.stk u.mod fun k hk => hne (h.sto k hk) (by omega), fun k hk => hs _ _ (h.sto k hk) (by omega),
      (h.dec.mod u.mod fun k hk => hne hk (by omega)).mono fun k hk => hs _ _ hk (by omega), ?_, ?_, ?_, fun k hk => ?_, h.lft, h.me⟩
    · obtain ⟨a, b, D, m, ht⟩ := ht.tight
      have hlt : ∀ k, X' k → k < w'.heap.size := fun k hk => by
        rcases u.sub k hk with h1 | h1
        · exact Nat.lt_of_lt_of_le (h.bnd k (by omega)) u.size
        · exact h1.2
      refine ⟨a, b, D, m, ht.mono fun k hk => ?_⟩
      rcases u.sub k hk with h1 | h1
      · exact hs k 5 h1 (by omega)
      · rw [if_neg (by omega), if_pos h1.2]
    · obtain ⟨n, D, h1, h2, h3⟩ := h.prp
      exact ⟨n, D, h1, ownsMap_mod h2 u.mod (hne h.lab.2.1 (by omega)), h3⟩
    · obtain ⟨n, D, h1, h2, h3⟩ := h.sad
      exact ⟨n, D, h1, ownsMap_mod h2 u.mod (hne h.lab.2.2 (by omega)), h3⟩
    · split at hk
      · exact Nat.lt_of_lt_of_le (h.bnd k hk) u.size
      · split at hk
        · rename_i h1; exact h1
        · exact absurd rfl hk
  · split at hk
    · exact Nat.lt_of_lt_of_le (h.bnd k hk) u.size
    · split at hk
      · rename_i h1; exact h1
      · exact absurd rfl hk
theorem CorW.propose (h : CorW S w p sv dv q gp gs c) (hm : Mod (fun k => k = gp) w w') {n : Nat} {D : DataW Value} (ho : w'.ownsMap Tryz.prog 3 tok gp n D) (hD : PrM D d.prop) (e : d = { c with prop := d.prop }) : CorW S w' p sv dv q gp gs d := by
  have hne : ∀ {k l : Nat}, S k = l → l ≠ 2 → ¬ k = gp := fun hk hl e => hl (by rw [← hk, e]; exact h.lab.2.1)
  rw [e]
  have e1 : ({ c with prop := d.prop } : CoD).t = c.t := rfl
  refine ⟨h.obj.mod hm (hne h.lab.1 (by omega)), h.lab, ints_mod h.stk hm fun k hk => hne (h.sto k hk) (by omega), h.sto, h.dec.mod hm fun k hk => hne hk (by omega), ?_, ?_, ?_, fun k hk => Nat.lt_of_lt_of_le (h.bnd k hk) hm.size, h.lft, h.me⟩
  · obtain ⟨a, b, D, m, ht⟩ := h.tal
    exact ⟨a, b, D, m, ht.mod hm fun k hk => hne hk (by omega)⟩
  · refine ⟨_, D, ?_, own_tight ho, hD⟩
    refine size_int ho fun x hx hh => ?_
    rw [(hD.2.1 x hx).1] at hh
    have := hD.2.2 x fun e => by rw [e] at hh; cases hh
    omega
  · obtain ⟨n, D, h1, h2, h3⟩ := h.sad
    exact ⟨n, D, h1, ownsMap_mod h2 hm (hne h.lab.2.2 (by omega)), h3⟩
theorem CorW.stpProp (h : CorW S w p sv dv q gp gs c) (hm : Mod (fun k => k = gp) w w') : Stp 1 6 S S w w' := Stp.ofMod hm (fun k e => by subst e; rw [h.lab.2.1]; omega) h.bnd
theorem CorW.say (h : CorW S w p sv dv q gp gs c) (hm : Mod (fun k => k = gs) w w') {n : Nat} {D : DataW Value} (ho : w'.ownsMap Tryz.prog 3 tok gs n D) (hD : SdM D c.t.length d.said) (e : d = { c with said := d.said }) : CorW S w' p sv dv q gp gs d := by
  have hne : ∀ {k l : Nat}, S k = l → l ≠ 3 → ¬ k = gs := fun hk hl e => hl (by rw [← hk, e]; exact h.lab.2.2)
  rw [e]
  refine ⟨h.obj.mod hm (hne h.lab.1 (by omega)), h.lab, ints_mod h.stk hm fun k hk => hne (h.sto k hk) (by omega), h.sto, h.dec.mod hm fun k hk => hne hk (by omega), ?_, ?_, ?_, fun k hk => Nat.lt_of_lt_of_le (h.bnd k hk) hm.size, h.lft, h.me⟩
  · obtain ⟨a, b, D, m, ht⟩ := h.tal
    exact ⟨a, b, D, m, ht.mod hm fun k hk => hne hk (by omega)⟩
  · obtain ⟨n, D, h1, h2, h3⟩ := h.prp
    exact ⟨n, D, h1, ownsMap_mod h2 hm (hne h.lab.2.1 (by omega)), h3⟩
  · refine ⟨_, D, ?_, own_tight ho, hD⟩
    refine size_int ho fun x hx hh => ?_
    rw [(hD.1.2 x hx).1] at hh
    unfold fat at hh
    split at hh
    · cases hh
    · have := hD.2 x.toNat fun e => by rw [e] at hh; cases hh
      have := h.tal
      obtain ⟨a, b, D, m, ht⟩ := this
      have := ht.st.2.1
      omega
theorem CorW.stpSay (h : CorW S w p sv dv q gp gs c) (hm : Mod (fun k => k = gs) w w') : Stp 1 6 S S w w' := Stp.ofMod hm (fun k e => by subst e; rw [h.lab.2.2]; omega) h.bnd
theorem CorW.st (h : CorW S w p sv dv q gp gs c) : StOk c.t := by obtain ⟨a, b, D, m, ht⟩ := h.tal; exact ht.st
theorem CorW.ok (h : CorW S w p sv dv q gp gs c) : TabOk c.T c.t.length := by obtain ⟨a, b, D, m, ht⟩ := h.tal; exact ht.ok
end
def Cor (S : Nat → Nat) (w : World) (p : Nat) (c : CoD) : Prop := ∃ sv dv q gp gs, CorW S w p sv dv q gp gs c
def acRow (a : AcV) : List Value := .int .i64 a.to :: mRow a.m.msg (.slice none 0 0)
theorem acRow_len (a : AcV) : (acRow a).length = 14 := rfl
structure TrnW (S : Nat → Nat) (w : World) (tb p : Nat) (kv ov sv dv : Value) (q gp gs : Nat) (kn : List Int) (c : CoD) : Prop where
  cor : CorW S w p sv dv q gp gs c
  turn : Fs w tb [.pointer (some ⟨p, 0, none⟩), kv, ov]
  ltb : S tb = 7
  out : RowN (fun k => S k = 8) w 53 14 ov (c.out.map acRow)
  knw : Ints w kv kn
  kns : ∀ k, kv.ownBlock = some k → k < w.heap.size ∧ S k = 0
def Trn (S : Nat → Nat) (w : World) (tb p : Nat) (kv : Value) (kn : List Int) (c : CoD) : Prop := ∃ ov sv dv q gp gs, TrnW S w tb p kv ov sv dv q gp gs kn c
section
variable {S S' : Nat → Nat} {F : Nat → Prop} {w w' : World} {tb p q gp gs : Nat} {kv ov sv dv : Value} {kn : List Int} {c d : CoD}
theorem TrnW.ext (h : TrnW S w tb p kv ov sv dv q gp gs kn c) (he : Ext w w') : TrnW S w' tb p kv ov sv dv q gp gs kn c :=
  ⟨h.cor.ext he, h.turn.ext he, h.ltb, h.out.ext he, h.knw.ext he, fun k hk => ⟨Nat.lt_of_lt_of_le (h.kns k hk).1 he.size, (h.kns k hk).2⟩⟩
theorem Trn.ext (h : Trn S w tb p kv kn c) (he : Ext w w') : Trn S w' tb p kv kn c := by obtain ⟨a, b, d, e, f, g, h⟩ := h; exact ⟨a, b, d, e, f, g, h.ext he⟩
theorem TrnW.bnd (h : TrnW S w tb p kv ov sv dv q gp gs kn c) : ∀ k, S k ≠ 0 → k < w.heap.size := h.cor.bnd
theorem TrnW.core (h : TrnW S w tb p kv ov sv dv q gp gs kn c) (s : Stp 1 6 S S' w w') {sv' dv' : Value} {q' gp' gs' : Nat} (hc : CorW S' w' p sv' dv' q' gp' gs' d) (e : d.out = c.out) : TrnW S' w' tb p kv ov sv' dv' q' gp' gs' kn d := by
  refine ⟨hc, h.turn.mod s.mod (s.off (l := 7) (by omega) h.ltb), by rw [s.same tb (h.bnd tb (by rw [h.ltb]; omega))]; exact h.ltb, ?_, ints_mod h.knw s.mod fun k hk => s.off (l := 0) (by omega) (h.kns k hk).2, fun k hk => ?_⟩
  · rw [e]
    exact (h.out.mod s.mod fun k hk => s.off (l := 8) (by omega) hk).mono fun k hk => by rw [s.same k (h.bnd k (by rw [hk]; omega))]; exact hk
  · have := h.kns k hk
    exact ⟨Nat.lt_of_lt_of_le this.1 s.size, by rw [s.same k this.1]; exact this.2⟩
theorem TrnW.send (h : TrnW S w tb p kv ov sv dv q gp gs kn c) {w1 w2 : World} {v : Value} {a : AcV} (hm1 : Mod (fun k => S k = 8) w w1) (hr : RowN (grow (fun k => S k = 8) w w1) w1 53 14 v (c.out.map acRow ++ [acRow a])) (hm2 : Mod (fun k => k = tb) w1 w2) (hf : Fs w2 tb [.pointer (some ⟨p, 0, none⟩), kv, v]) :
    ∃ S', TrnW S' w2 tb p kv v sv dv q gp gs kn { c with out := c.out ++ [a] } ∧ Stp 1 8 S S' w w2 := by
  have htb : tb < w.heap.size := h.bnd tb (by rw [h.ltb]; omega)
  have hb := h.bnd
  refine ⟨fun k => if k < w.heap.size then S k else if k < w1.heap.size then 8 else 0, ?_, ⟨(hm1.mono (G := fun k => 1 ≤ S k ∧ S k ≤ 8) fun k _ e => by show 1 ≤ S k ∧ S k ≤ 8; rw [e]; omega).trans hm2 fun k _ e => by have e' : k = tb := e; show 1 ≤ S k ∧ S k ≤ 8; rw [e', h.ltb]; omega, fun k hk => if_pos hk, fun k hk => ?_⟩⟩
  · have hs : ∀ k l, S k = l → l ≠ 0 → (if k < w.heap.size then S k else if k < w1.heap.size then 8 else 0) = l := fun k l hk hl => by
      rw [if_pos (hb k (by omega))]; exact hk
    have hne8 : ∀ {k l : Nat}, S k = l → l ≠ 8 → ¬ S k = 8 := fun hk hl e => hl (by omega)
    have hnet : ∀ {k l : Nat}, S k = l → l ≠ 7 → ¬ k = tb := fun hk hl e => hl (by rw [← hk, e]; exact h.ltb)
    have hco := (h.cor.mod hm1 fun k h1 h2 e => by have e' : S k = 8 := e; omega).mod hm2 fun k h1 h2 e => by have e' : k = tb := e; rw [e', h.ltb] at h2; omega
    refine ⟨?_, hf, hs _ _ h.ltb (by omega), ?_, ints_mod (ints_mod h.knw hm1 fun k hk => hne8 (h.kns k hk).2 (by omega)) hm2 fun k hk => hnet (h.kns k hk).2 (by omega), fun k hk => ⟨Nat.lt_of_lt_of_le (h.kns k hk).1 (Nat.le_trans hm1.size hm2.size), by rw [if_pos (h.kns k hk).1]; exact (h.kns k hk).2⟩⟩
    · have := hco.relab (S' := fun k => if k < w.heap.size then S k else if k < w1.heap.size then 8 else 0) (fun k h1 h2 => hs k _ rfl (by omega)) fun k hk => ?_
      · exact ⟨this.obj, this.lab, this.stk, this.sto, this.dec, this.tal, this.prp, this.sad, this.bnd, this.lft, this.me⟩
      · split at hk
        · exact Nat.lt_of_lt_of_le (hb k hk) (Nat.le_trans hm1.size hm2.size)
        · split at hk
          · rename_i h1; exact Nat.lt_of_lt_of_le h1 hm2.size
          · exact absurd rfl hk
    · rw [List.map_append, List.map_cons, List.map_nil]
      refine (hr.mod hm2 fun k hk e => ?_).mono fun k hk => ?_
      · have e' : k = tb := e
        rcases hk with hk | hk
        · exact hnet hk (by omega) e'
        · omega
      · rcases hk with hk | hk
        · exact hs k 8 hk (by omega)
        · rw [if_neg (by omega), if_pos hk.2]
  · split at hk
    · exact Nat.lt_of_lt_of_le (hb k hk) (Nat.le_trans hm1.size hm2.size)
    · split at hk
      · rename_i h1; exact Nat.lt_of_lt_of_le h1 hm2.size
      · exact absurd rfl hk
end
end Go.Proofs.YtajkjiegcmpjaaaGreat
namespace Go.Proofs.YtajkjiegcmpjaaaGreat
set_option maxHeartbeats 3200000
set_option maxRecDepth 100000
open Go.RowKit
theorem rdV {f : FuncId} {args : Array Value} {w : World} {u : Value} (h : Calls Tryz.prog f args w fun e w' => e = .returned u ∧ Ext w w') : Calls Tryz.prog f args w fun e w' => ∃ v', e = .returned v' ∧ Ext w w' ∧ Sp.p (.val u) v' w' := by
  refine h.mono ?_
  rintro e w' ⟨rfl, hx⟩
  exact ⟨_, rfl, hx, rfl⟩
theorem runs_leni {o : Oper} {ρ : Operand → Value} {w : World} {v : Value} {l : List Int} (x : Operand) (ho : o.op = .call { callee := .builtin .len, args := #[x], argTypes := #[22] }) (hv : ρ x = v) (h : Ints w v l) : Runs Tryz.prog o ρ w (.int .i64 l.length) := by
  have := runs_len Tryz.elI x ho hv h
  rw [i64s_length] at this; exact this
theorem Tryz.stPrep : StN Tryz.prog 73 2 [.int .i64 0, .int .i64 0] := StN.of (by kernel_rfl) (by kernel_rfl) rfl
theorem Tryz.stRound : StN Tryz.prog 75 10 [.int .i64 0, .int .i64 0, .int .i64 0, .pointer none, .map none, .map none, .int .i64 0, .int .i64 0, .int .i64 0, .int .i64 0] := StN.of (by kernel_rfl) (by kernel_rfl) rfl
theorem Tryz.stActA : StN Tryz.prog 53 14 (.int .i64 0 :: mZero) := StN.of (by kernel_rfl) (by kernel_rfl) rfl
theorem Set_at {w : World} {g i : Nat} {cs : List Value} {v b m : Int} (f00 : Fs w g cs) (hi0 : i < cs.length) (hvI : v ≤ 9223372036854775807) :
    Calls Tryz.prog 59 #[.pointer (some ⟨g, i, none⟩), .int .i64 v, .int .i64 b, .int .i64 m] w fun e w' => e = .returned (.tuple #[]) ∧ ∃ w1, Ext w w1 ∧ Mod (fun k => k = g) w1 w' ∧ Fs w' g (cs.set i (.int .i64 (pat v b m))) := by
  refine z30z ?_
  have hX := Ext.refl w
  replace f00 := hide_ f00
  have hvI' := hide_ hvI
  have hi := hide_ hi0
  obtain ⟨r, hr0⟩ : ∃ r, pat v b m = r := ⟨_, rfl⟩
  have hr := hide_ hr0
  rw [hr0]
  clear hr0 hvI hi0
  go_enter Tryz.func59, Tryz.ntmps59
  go_wp2_with ((first | (go_at_call 75; refine (Patience_any hvI'.out).mono ?_; rintro e w4 ⟨rfl, hx⟩; rw [hr.out]; replace hX := hX.trans hx; clear hx) | refine z6az ?_ | ((with_reducible refine at_store ?_); refine w_fstore _ _ (u := .int .i64 r) rfl rfl rfl rfl rfl (f00.out.ext hX) hi.out rfl rfl (by kernel_rfl) ?_; intro w6 hmd f2) | fail) <;> (try refine z1z ?_))
  go_end0
  exact Keep.intro ⟨rfl, w4, hX, hmd, f2⟩
theorem Tick_at {w : World} {g i : Nat} {cs : List Value} {x : Int} (f00 : Fs w g cs) (hi0 : cs[i]? = some (.int .i64 x)) (hxI : x ≤ 9223372036854775807) :
    Calls Tryz.prog 36 #[.pointer (some ⟨g, i, none⟩)] w fun e w' => e = .returned (.bool (decide (tck x = 0))) ∧ Mod (fun k => k = g) w w' ∧ Fs w' g (cs.set i (.int .i64 (tck x))) := by
  refine z30z ?_
  replace f00 := hide_ f00
  have hil := (List.getElem?_eq_some_iff.1 hi0).1
  have hi := hide_ hi0
  obtain ⟨y, hy0⟩ : ∃ y, tck x = y := ⟨_, rfl⟩
  obtain ⟨z, hz0⟩ : ∃ z, max x 1 = z := ⟨_, rfl⟩
  have hz := hide_ hz0
  have hzy := hide_ (show z - 1 = y from by rw [← hz0, ← hy0]; rfl)
  have hz1 : 1 ≤ z := by omega
  have hz2 : z ≤ 9223372036854775807 := by omega
  rw [hy0]
  have hl2 := hide_ (show (cs.set i (.int .i64 y))[i]? = some (.int .i64 y) from by rw [List.getElem?_set_self hil])
  have hil' := hide_ hil
  obtain ⟨q, hq0⟩ : ∃ q, decide (y = 0) = q := ⟨_, rfl⟩
  have hq := hide_ hq0
  rw [hq0]
  have hqb : (y == 0) = q := by rw [← hq0]; by_cases h : y = 0 <;> simp [h]
  clear hy0 hz0 hxI hq0 hi0 hil
  go_enter Tryz.func36, Tryz.ntmps36
  go_wp2_with ((first | refine z6az ?_ | ((with_reducible refine at_load ?_); refine w_fload _ rfl rfl rfl f2 hl2.out (agg_of (by kernel_rfl)) ?_) | ((with_reducible refine at_load ?_); refine w_fload _ rfl rfl rfl f00.out hi.out (agg_of (by kernel_rfl)) ?_) | ((with_reducible refine at_bi ?_); refine w_max _ _ z hz.out.symm rfl rfl rfl rfl ?_) | ((with_reducible refine at_store ?_); refine w_fstore _ _ (u := .int .i64 y) rfl rfl rfl rfl (by rw [← hzy.out]; rfl) f00.out hil'.out rfl rfl (by kernel_rfl) ?_; intro w6 hmd f2) | fail) <;> (try refine z1z ?_))
  go_ret
  exact Keep.intro ⟨rfl, hmd, f2⟩
theorem Index_core {S : Nat → Nat} {w : World} {p q gp gs : Nat} {sv dv : Value} {c : CoD} (h : CorW S w p sv dv q gp gs c) :
    Calls Tryz.prog 21 #[.pointer (some ⟨p, 0, none⟩)] w fun e w' => e = .returned (.int .i64 (c.dec.length : Nat)) ∧ Ext w w' := by
  refine z30z ?_
  have hC := hide_ h
  have hD := hide_ h.dec.sl
  have hX := Ext.refl w
  clear h
  go_enter Tryz.func21, Tryz.ntmps21
  go_wp2_with ((first | refine z5sz ?_ | ((with_reducible refine at_bi ?_); refine i_len _ rfl rfl rfl hD.out ?_) | fail) <;> (try refine z1z ?_))
  go_ret
  exact z3mz
theorem View_core {S : Nat → Nat} {w : World} {p q gp gs : Nat} {sv dv : Value} {c : CoD} (h : CorW S w p sv dv q gp gs c) :
    Calls Tryz.prog 17 #[.pointer (some ⟨p, 0, none⟩)] w fun e w' => e = .returned (.int .i64 c.view) ∧ Ext w w' := by
  refine z30z ?_
  have hC := hide_ h
  have hX := Ext.refl w
  clear h
  go_enter Tryz.func17, Tryz.ntmps17
  go_wp2_with ((first | refine z4gz ?_ | refine z21z ?_ | refine z3qz ?_ | fail) <;> (try refine z1z ?_))
  go_ret
  exact z3mz
theorem Step_core {S : Nat → Nat} {w : World} {p q gp gs : Nat} {sv dv : Value} {c : CoD} (h : CorW S w p sv dv q gp gs c) :
    Calls Tryz.prog 18 #[.pointer (some ⟨p, 0, none⟩)] w fun e w' => e = .returned (.int .i64 c.step) ∧ Ext w w' := by
  refine z30z ?_
  have hC := hide_ h
  have hX := Ext.refl w
  clear h
  go_enter Tryz.func18, Tryz.ntmps18
  go_wp2_with ((first | refine z4gz ?_ | refine zuz ?_ | refine z3qz ?_ | fail) <;> (try refine z1z ?_))
  go_ret
  exact z3mz
theorem Decisions_core {S : Nat → Nat} {w : World} {p q gp gs : Nat} {sv dv : Value} {c : CoD} (h : CorW S w p sv dv q gp gs c) (hl0 : c.dec.length * 8 ≤ 140737488355328) :
    Calls Tryz.prog 16 #[.pointer (some ⟨p, 0, none⟩)] w fun e w' => ∃ u, e = .returned u ∧ OwnI w.heap.size w' u c.dec ∧ Ext w w' := by
  refine z30z ?_
  have hC := hide_ h
  have hl := hide_ hl0
  have hD := hide_ (show Ints w dv c.dec from h.dec.sl)
  clear h hl0
  go_enter Tryz.func16, Tryz.ntmps16
  go_wp2_with ((first | (go_at_call 24; refine (IClone_any hD.out hl.out).mono ?_; rintro e w2 ⟨v2, rfl, o2, hX⟩) | refine z5sz ?_ | fail) <;> (try refine z1z ?_))
  go_ret
  exact Keep.intro ⟨v2, rfl, o2, hX⟩
theorem isOver_core {S : Nat → Nat} {w : World} {p q gp gs : Nat} {sv dv : Value} {c : CoD} (h : CorW S w p sv dv q gp gs c) {r : Bool} (hr : decide (1000 < c.dec.length) = r) :
    Calls Tryz.prog 34 #[.pointer (some ⟨p, 0, none⟩)] w fun e w' => e = .returned (.bool r) ∧ Ext w w' := by
  refine z30z ?_
  have hC := hide_ h
  obtain ⟨n, hn0⟩ : ∃ n, ((c.dec.length : Nat) : Int) = n := ⟨_, rfl⟩
  have hn := hide_ hn0
  have ht : decide (1000 < n) = r := by rw [← hr, ← hn0]; exact decide_eq_decide.2 (by omega)
  have hX := Ext.refl w
  clear h hr hn0
  go_enter Tryz.func34, Tryz.ntmps34
  go_wp2_with (first | (go_at_call 21; refine (Index_core (hC.out.ext hX)).mono ?_; rintro e w2 ⟨rfl, hx⟩; rw [hn.out]; replace hX := hX.trans hx; clear hx) | fail)
  go_ret
  exact z3mz
theorem leader_core {S : Nat → Nat} {w : World} {p q gp gs : Nat} {sv dv : Value} {c : CoD} {v : Int} (h : CorW S w p sv dv q gp gs c) {l : Int} (hl0 : c.leader v = l) :
    Calls Tryz.prog 44 #[.pointer (some ⟨p, 0, none⟩), .int .i64 v] w fun e w' => e = .returned (.int .i64 l) ∧ Ext w w' := by
  refine z30z ?_
  have hC := hide_ h
  have hl := hide_ (show ldr ((c.dec.length : Nat) : Int) v ((c.t.length : Nat) : Int) = l from hl0)
  have hX := Ext.refl w
  clear h hl0
  go_enter Tryz.func44, Tryz.ntmps44
  go_wp2
  refine ztz ?_; intro wd hxd; have HC := hC.out.ext hxd; have F0 := HC.obj; have ST := HC.stk
  refine Ph.rest 0 10 (by kernel_rfl) ?_
  refine z1jz ?_
  refine LinL.step (s := (.val (.int .i64 (c.dec.length : Nat)))) [(5, some 0)] rfl (by kernel_rfl) (op_calls 21 #[(.tmp 5)] #[32] (fun σ => #[.pointer (some ⟨p, 0, none⟩)]) rfl rfl (fun _ _ => rfl) fun σ w' hx hg => ⟨by have h5 : σ.tmps.getD 5 undef = .pointer (some ⟨p, 0, none⟩) := hg.1; simp only [List.map_toArray, List.map_cons, List.map_nil, Act.eval, h5], rdV (Index_core (HC.ext hx))⟩) ?_
  refine LinL.st [(1, none)] rfl (opmv (.int .i64 v)) ?_
  refine z1jz ?_
  refine LinL.st [(8, some 0)] rfl opnl ?_
  refine LinL.st [(9, some 0)] rfl (opfb 1 1 1 p) ?_
  refine LinL.st [(10, some 0)] rfl (opld (sv) F0) ?_
  refine LinL.step (s := (.val (.int .i64 (c.t.length : Nat)))) [(11, some 0)] rfl (by kernel_rfl) (op_runs rfl fun σ w' hx hg => ⟨_, runs_leni (ρ := σ.eval) (w := w') (.tmp 11) rfl hg.1 (ST.ext hx), rfl⟩) ?_
  refine LinL.step (s := (.val (.int .i64 l))) [(6, some 6), (7, some 5), (12, some 0)] rfl (by kernel_rfl) (op_calls 60 #[(.tmp 6), (.tmp 7), (.tmp 12)] #[3, 3, 3] (fun σ => #[.int .i64 (c.dec.length : Nat), .int .i64 v, .int .i64 (c.t.length : Nat)]) rfl rfl (fun _ _ => rfl) fun σ w' hx hg => ⟨by have h6 : σ.tmps.getD 6 undef = .int .i64 (c.dec.length : Nat) := hg.1; have h7 : σ.tmps.getD 7 undef = .int .i64 v := hg.2.1; have h12 : σ.tmps.getD 12 undef = .int .i64 (c.t.length : Nat) := hg.2.2.1; simp only [List.map_toArray, List.map_cons, List.map_nil, Act.eval, h6, h7, h12], rdV (by rw [← hl.out]; exact Leader_any)⟩) ?_
  refine LinL.st [(13, some 0)] rfl (opcp (.val (.int .i64 l))) ?_
  intro wN hxN
  refine z15z ?_
  replace hX := hX.trans (hxd.trans hxN); clear hxd hxN HC F0 ST
  go_wp2
  go_ret
  exact z3mz
theorem wait_core {S : Nat → Nat} {w : World} {p q gp gs : Nat} {sv dv : Value} {c : CoD} (h : CorW S w p sv dv q gp gs c) (hv0 : c.view ≤ 9223372036854775807) :
    Calls Tryz.prog 42 #[.pointer (some ⟨p, 0, none⟩)] w fun e w' => e = .returned (.tuple #[]) ∧ CorW S w' p sv dv q gp gs { c with left := pat c.view c.base c.most } ∧ Stp 1 6 S S w w' := by
  refine z30z ?_
  have hC := hide_ h
  have hv := hide_ hv0
  clear h hv0
  go_enter Tryz.func42, Tryz.ntmps42
  go_wp2
  refine ztz ?_; intro wd hxd; have HC := hC.out.ext hxd; have F0 := HC.obj
  refine Ph.gate 0 17 (by kernel_rfl) ?_
  refine z1jz ?_
  refine LinL.st [(2, some 0)] rfl opnl ?_
  refine LinL.st [(3, some 0)] rfl (opfb 6 6 6 p) ?_
  refine LinL.st [(4, some 0)] rfl (opfb 2 2 8 p) ?_
  refine z1jz ?_
  refine LinL.st [(6, some 0)] rfl opnl ?_
  refine LinL.st [(7, some 0)] rfl (opfb 6 6 6 p) ?_
  refine LinL.st [(8, some 0)] rfl (opfb 0 0 6 p) ?_
  refine LinL.st [(9, some 0)] rfl (opld (.int .i64 c.view) F0) ?_
  refine z1jz ?_
  refine LinL.st [(11, some 0)] rfl opnl ?_
  refine LinL.st [(12, some 0)] rfl (opfb 2 2 2 p) ?_
  refine LinL.st [(13, some 0)] rfl (opld (.int .i64 c.base) F0) ?_
  refine z1jz ?_
  refine LinL.st [(15, some 0)] rfl opnl ?_
  refine LinL.st [(16, some 0)] rfl (opfb 3 3 3 p) ?_
  refine LinL.st [(17, some 0)] rfl (opld (.int .i64 c.most) F0) ?_
  intro wN hxN
  refine z15z ?_
  refine wpOp_call 59 #[.pointer (some ⟨p, 8, none⟩), .int .i64 c.view, .int .i64 c.base, .int .i64 c.most] 19 rfl rfl rfl rfl (fun _ _ => rfl) (by simp only [List.map_toArray, List.map_cons, List.map_nil, Act.eval]; rfl) ?_
  refine (Set_at (F0.ext hxN) (by simp [coRow]) hv.out).mono ?_; rintro e w4 ⟨rfl, w1, hx1, hm1, f1⟩; refine ⟨_, rfl, ?_⟩
  refine z1z ?_
  show Ph Tryz.prog _ _ 18 _ _
  refine Ph.rest 18 0 (by kernel_rfl) ?_
  intro wM hxM
  refine z1kz ?_
  go_wp2
  go_end0
  have hx := hxd.trans (hxN.trans hx1)
  have hC1 := hC.out.ext hx
  have hr := pat_range c.view c.base c.most
  have hC2 := hC1.cell (d := { c with left := pat c.view c.base c.most }) hm1 f1 ⟨rfl, rfl, rfl, rfl, rfl, rfl⟩ (by show 0 ≤ pat c.view c.base c.most ∧ pat c.view c.base c.most ≤ 1000000; omega)
  exact Keep.intro ⟨rfl, hC2.ext hxM, ((Stp.ofExt hx hC.out.bnd).trans (hC1.stpCell hm1)).trans (Stp.ofExt hxM hC2.bnd)⟩
theorem mostPrepared_core {S : Nat → Nat} {w : World} {p q gp gs : Nat} {sv dv : Value} {c : CoD} {v : Int} (h : CorW S w p sv dv q gp gs c) (hv0 : In64 v) {r : Option Int} (hr0 : c.T.mostOf c.t 4 v = r) :
    Calls Tryz.prog 68 #[.pointer (some ⟨p, 0, none⟩), .int .i64 v] w fun e w' => e = .returned (.tuple #[.int .i64 (r.getD 0), .bool r.isSome]) ∧ Ext w w' := by
  refine z30z ?_
  have hC := hide_ h
  have hv := hide_ hv0
  have hr := hide_ hr0
  have hX := Ext.refl w
  clear h hv0 hr0
  go_enter Tryz.func68, Tryz.ntmps68
  go_wp2_with ((first | (go_at_call 78; refine (TMost_any (hC.out.ext hX).tal (by omega) (In64.nat (n := 4) (by omega)) hv.out hr.out).mono ?_; rintro e w2 ⟨rfl, hx⟩; replace hX := hX.trans hx; clear hx) | refine z4gz ?_ | refine z3hz ?_ | ((with_reducible refine at_load ?_); (try refine w_yes _ _ _ rfl rfl rfl ?_); refine w_fload _ rfl rfl rfl (hC.out.ext hX).obj rfl (agg_of (by kernel_rfl)) ?_) | fail) <;> (try refine z1z ?_))
  go_ret2
  exact z3mz
def shown (c : CoD) (x u : Int) : Bool := decide (u = -1 ∨ c.T.mostOf c.t 4 u = some x)
theorem isShown_core {S : Nat → Nat} {w : World} {p q gp gs : Nat} {sv dv : Value} {c : CoD} {x u : Int} (h : CorW S w p sv dv q gp gs c) (hu0 : In64 u) {rr : Bool} (hrr0 : shown c x u = rr) :
    Calls Tryz.prog 66 #[.pointer (some ⟨p, 0, none⟩), .agg #[.int .i64 x, .int .i64 u]] w fun e w' => e = .returned (.bool rr) ∧ Ext w w' := by
  subst hrr0
  refine z30z ?_
  have hC := hide_ h
  have hu := hide_ hu0
  obtain ⟨r, hr0⟩ : ∃ r, c.T.mostOf c.t 4 u = r := ⟨_, rfl⟩
  have hr := hide_ hr0
  have hX := Ext.refl w
  by_cases h1 : u = -1
  · have t1 : (u == -1) = true := by simp [h1]
    have hs := hide_ (show shown c x u = true from decide_eq_true (.inl h1))
    clear h hu0 hr0 h1
    go_enter Tryz.func66, Tryz.ntmps66
    go_wp2_with ((first | (refine z3pz ?_; intro g3 w1 hg3 hx f3; replace hX := hX.trans hx; clear hx) | refine z1gz ?_ | refine zzz ?_ | fail) <;> (try refine z1z ?_))
    go_ret
    exact z52z
  have t1 : (u == -1) = false := by simp [h1]
  cases r with
  | none =>
    have hs := hide_ (show shown c x u = false from decide_eq_false fun q => by rcases q with q | q; exact h1 q; rw [hr0] at q; cases q)
    clear h hu0 hr0 h1
    go_enter Tryz.func66, Tryz.ntmps66
    go_wp2_with ((first | go_big_skip | (refine z3pz ?_; intro g3 w1 hg3 hx f3; replace hX := hX.trans hx; clear hx) | (go_at_call 68; refine (mostPrepared_core (hC.out.ext hX) hu.out hr.out).mono ?_; rintro e w2 ⟨rfl, hx⟩; replace f3 := f3.ext hx; replace hX := hX.trans hx; clear hx) | refine z1gz ?_ | refine zzz ?_ | fail) <;> (try refine z1z ?_))
    go_ret
    exact z52z
  | some y =>
    obtain ⟨b, hb0⟩ : ∃ b, (y == x) = b := ⟨_, rfl⟩
    have t2 : (y == x) = b := hb0
    have hs := hide_ (show shown c x u = b from by
      subst hb0
      unfold shown
      rw [hr0]
      by_cases e : y = x <;> simp [h1, e])
    clear h hu0 hr0 h1 hb0
    go_enter Tryz.func66, Tryz.ntmps66
    go_wp2_with ((first | go_big_skip | (refine z3pz ?_; intro g3 w1 hg3 hx f3; replace hX := hX.trans hx; clear hx) | (go_at_call 68; refine (mostPrepared_core (hC.out.ext hX) hu.out hr.out).mono ?_; rintro e w2 ⟨rfl, hx⟩; simp only [Option.getD_some, Option.isSome_some]; replace f3 := f3.ext hx; replace hX := hX.trans hx; clear hx) | refine z1gz ?_ | refine zzz ?_ | fail) <;> (try refine z1z ?_))
    go_ret
    exact z52z
theorem lockAllows_core {S : Nat → Nat} {w : World} {p q gp gs : Nat} {sv dv : Value} {c : CoD} {x u : Int} (h : CorW S w p sv dv q gp gs c) {r : Bool} (hr0 : c.free x u = r) :
    Calls Tryz.prog 67 #[.pointer (some ⟨p, 0, none⟩), .agg #[.int .i64 x, .int .i64 u]] w fun e w' => e = .returned (.bool r) ∧ Ext w w' := by
  subst hr0
  refine z30z ?_
  have hC := hide_ h
  have hX := Ext.refl w
  by_cases h1 : c.lw ≤ u
  · have t1 : decide (c.lw ≤ u) = true := decide_eq_true h1
    have hs := hide_ (show c.free x u = true from decide_eq_true (.inr h1))
    clear h h1
    go_enter Tryz.func67, Tryz.ntmps67
    go_wp2_with ((first | (refine z3pz ?_; intro g3 w1 hg3 hx f3; replace hX := hX.trans hx; clear hx) | fail) <;> (try refine z1z ?_))
    refine ztz ?_; intro wd hxd; have F0 := hC.out.obj.ext (hX.trans hxd); have F3 := f3.ext hxd
    refine Ph.rest 0 21 (by kernel_rfl) ?_
    refine z1jz ?_
    refine LinL.st [(5, some 0)] rfl opnl ?_
    refine z43z ?_
    refine LinL.step (s := (.val (.bool true))) [(10, some 2), (12, some 0)] rfl (by kernel_rfl) (op_runs rfl fun σ w' hx hg => ⟨(.bool true), by have h10 : σ.tmps.getD 10 undef = .int .i64 c.lw := hg.1; have h12 : σ.tmps.getD 12 undef = .int .i64 u := hg.2.1; unfold Runs execOp; simp [Act.eval, h10, h12, go_sem, t1], rfl⟩) ?_
    refine LinL.st [(13, some 0)] rfl (opcp (.val (.bool true))) ?_
    refine LinL.step (s := .val undef) [(0, none), (14, some 0)] rfl (by kernel_rfl) (op_no (reads := [(0, none)]) 9 14 0 false rfl rfl rfl) ?_
    refine LinL.step (s := .val undef) [(15, some 0), (14, some 1)] rfl (by kernel_rfl) (op_no (reads := [(15, some 0)]) 9 14 1 false rfl rfl rfl) ?_
    refine LinL.step (s := .val undef) [(16, some 0), (14, some 2)] rfl (by kernel_rfl) (op_no (reads := [(16, some 0)]) 9 14 2 false rfl rfl rfl) ?_
    refine LinL.step (s := .val undef) [(17, some 0), (14, some 3)] rfl (by kernel_rfl) (op_no (reads := [(17, some 0)]) 9 14 3 false rfl rfl rfl) ?_
    refine LinL.step (s := .val undef) [(18, some 0), (14, some 4)] rfl (by kernel_rfl) (op_no (reads := [(18, some 0)]) 9 14 4 false rfl rfl rfl) ?_
    refine LinL.step (s := .val undef) [(19, some 0), (14, some 5)] rfl (by kernel_rfl) (op_no (reads := [(19, some 0)]) 9 14 5 false rfl rfl rfl) ?_
    refine LinL.step (s := .val undef) [(3, none), (14, some 6)] rfl (by kernel_rfl) (op_no (reads := [(3, none)]) 9 14 6 false rfl rfl rfl) ?_
    refine LinL.step (s := .val undef) [(21, some 0), (14, some 7)] rfl (by kernel_rfl) (op_no (reads := [(21, some 0)]) 9 14 7 false rfl rfl rfl) ?_
    refine LinL.step (s := .val undef) [(20, some 2), (22, some 0), (14, some 8)] rfl (by kernel_rfl) (op_no (reads := [(20, some 2), (22, some 0)]) 9 14 8 false rfl rfl rfl) ?_
    refine LinL.step (s := (.val (.bool true))) [(14, some 9), (23, some 0)] rfl (by kernel_rfl) (op_runs rfl fun σ w' hx hg => ⟨_, runs_pick_t (ρ := σ.eval) (w := w') (.tmp 14) (.const (.bool true)) (.tmp 23) rfl hg.1 rfl, rfl⟩) ?_
    refine LinL.st [(24, some 0)] rfl (opcp (.val (.bool true))) ?_
    intro wN hxN
    refine z15z ?_
    replace hX := hX.trans (hxd.trans hxN)
    go_wp2
    go_ret
    exact z52z
  · have t1 : decide (c.lw ≤ u) = false := decide_eq_false h1
    obtain ⟨qb, hb0⟩ : ∃ b, (c.lv == x) = b := ⟨_, rfl⟩
    have t2 : (c.lv == x) = qb := hb0
    have hs := hide_ (show c.free x u = qb from by
      subst hb0
      unfold CoD.free
      by_cases e : c.lv = x <;> simp [e, h1])
    clear h h1 hb0
    go_enter Tryz.func67, Tryz.ntmps67
    go_wp2_with ((first | (refine z3pz ?_; intro g3 w1 hg3 hx f3; replace hX := hX.trans hx; clear hx) | fail) <;> (try refine z1z ?_))
    refine ztz ?_; intro wd hxd; have F0 := hC.out.obj.ext (hX.trans hxd); have F3 := f3.ext hxd
    refine Ph.rest 0 21 (by kernel_rfl) ?_
    refine z1jz ?_
    refine LinL.st [(5, some 0)] rfl opnl ?_
    refine z43z ?_
    refine LinL.step (s := (.val (.bool false))) [(10, some 2), (12, some 0)] rfl (by kernel_rfl) (op_runs rfl fun σ w' hx hg => ⟨(.bool false), by have h10 : σ.tmps.getD 10 undef = .int .i64 c.lw := hg.1; have h12 : σ.tmps.getD 12 undef = .int .i64 u := hg.2.1; unfold Runs execOp; simp [Act.eval, h10, h12, go_sem, t1], rfl⟩) ?_
    refine LinL.st [(13, some 0)] rfl (opcp (.val (.bool false))) ?_
    refine LinL.st [(0, none), (14, some 0)] rfl (op_yes (reads := [(0, none)]) 9 14 0 false rfl rfl rfl (opmv (.pointer (some ⟨p, 0, none⟩)))) ?_
    refine LinL.st [(15, some 0), (14, some 1)] rfl (op_yes (reads := [(15, some 0)]) 9 14 1 false rfl rfl rfl opnl) ?_
    refine LinL.st [(16, some 0), (14, some 2)] rfl (op_yes (reads := [(16, some 0)]) 9 14 2 false rfl rfl rfl (opfb 6 6 6 p)) ?_
    refine LinL.st [(17, some 0), (14, some 3)] rfl (op_yes (reads := [(17, some 0)]) 9 14 3 false rfl rfl rfl (opfb 6 6 12 p)) ?_
    refine LinL.st [(18, some 0), (14, some 4)] rfl (op_yes (reads := [(18, some 0)]) 9 14 4 false rfl rfl rfl (opfb 0 0 12 p)) ?_
    refine LinL.st [(19, some 0), (14, some 5)] rfl (op_yes (reads := [(19, some 0)]) 9 14 5 false rfl rfl rfl (opld (.int .i64 c.lv) F0)) ?_
    refine LinL.st [(3, none), (14, some 6)] rfl (op_yes (reads := [(3, none)]) 9 14 6 false rfl rfl rfl (opfo 0 0 0 g3)) ?_
    refine LinL.st [(21, some 0), (14, some 7)] rfl (op_yes (reads := [(21, some 0)]) 9 14 7 false rfl rfl rfl (opld (.int .i64 x) F3)) ?_
    refine LinL.step (s := (.val (.bool qb))) [(20, some 2), (22, some 0), (14, some 8)] rfl (by kernel_rfl) (op_yes (reads := [(20, some 2), (22, some 0)]) 9 14 8 false rfl rfl rfl (op_runs rfl fun σ w' hx hg => ⟨(.bool qb), by have h20 : σ.tmps.getD 20 undef = .int .i64 c.lv := hg.1; have h22 : σ.tmps.getD 22 undef = .int .i64 x := hg.2.1; unfold Runs execOp; simp [Act.eval, h20, h22, go_sem, t2], rfl⟩)) ?_
    refine LinL.step (s := (.val (.bool qb))) [(14, some 9), (23, some 0)] rfl (by kernel_rfl) (op_runs rfl fun σ w' hx hg => ⟨_, runs_pick_f (ρ := σ.eval) (w := w') (.tmp 14) (.const (.bool true)) (.tmp 23) rfl hg.1 hg.2.1, rfl⟩) ?_
    refine LinL.st [(24, some 0)] rfl (opcp (.val (.bool qb))) ?_
    intro wN hxN
    refine z15z ?_
    replace hX := hX.trans (hxd.trans hxN)
    go_wp2
    go_ret
    exact z52z
end Go.Proofs.YtajkjiegcmpjaaaGreat
namespace Go.Proofs.YtajkjiegcmpjaaaGreat
set_option maxRecDepth 100000
open Go.RowKit
def dagB (ops : Array Oper) : Bool := (List.range ops.size).all fun i => match ops[i]? with | some o => (deps o).all fun j => decide (j < i) | none => true
theorem dag_of {ops : Array Oper} (h : dagB ops = true) {i : Nat} {o : Oper} (ho : ops[i]? = some o) : ∀ j ∈ deps o, j < i := fun j hj => by
  have hi := (Array.getElem?_eq_some_iff.1 ho).1
  simp only [dagB, List.all_eq_true, List.mem_range] at h
  have h1 := h i hi
  rw [ho] at h1
  simp only [List.all_eq_true, decide_eq_true_eq] at h1
  exact h1 j hj
section
variable {P : Program} {ops : Array Oper} {Q : Exit → Act → World → Prop}
theorem wpAny_inv (hdag : dagB ops = true) (Inv : Array Bool → Act → World → Prop)
    (step : ∀ (listed : Array Bool) (a : Act) (w : World) (i : Nat) (o : Oper), listed.size = ops.size → Inv listed a w → ops[i]? = some o → listed[i]? = some false → (∀ j ∈ deps o, listed[j]? = some true) → (∀ (k : Nat) (ok : Oper), ops[k]? = some ok → i ∈ deps ok → listed[k]? = some false) →
      wpOp P ops Q i (Inv (listed.setIfInBounds i true)) a w)
    (fin : ∀ (listed : Array Bool) (a : Act) (w : World), (∀ i, i < ops.size → listed[i]? = some true) → Inv listed a w → Q .normal a w) :
    ∀ (f : Nat) (listed : Array Bool) (a : Act) (w : World), listed.size = ops.size → listed.toList.count false = f → Closed ops listed → Inv listed a w → wpAny P .any ops Q f listed a w := by
  intro f
  induction f with
  | zero =>
    intro listed a w hls hcnt hcl hI
    have hall : ∀ i, i < ops.size → listed[i]? = some true := fun i hi => by
      have hm : false ∉ listed.toList := List.count_eq_zero.1 hcnt
      have hlt : i < listed.size := by omega
      rw [Array.getElem?_eq_getElem hlt]
      cases hb : listed[i] with
      | true => rfl
      | false => exact absurd (by rw [← hb]; exact Array.getElem_mem_toList hlt) hm
    refine ⟨?_, fin listed a w hall hI⟩
    cases hr : Region.ready .any ops listed with
    | nil => rfl
    | cons i r =>
      obtain ⟨o, ho, hu, _⟩ := (ready_iffL ops hls i).1 (by rw [hr]; exact List.mem_cons_self ..)
      rw [hall i (Array.getElem?_eq_some_iff.1 ho).1] at hu; cases hu
  | succ f ih =>
    intro listed a w hls hcnt hcl hI
    refine ⟨fun hnil => ?_, fun i hi => ?_⟩
    · refine fin listed a w (fun i => ?_) hI
      induction i using Nat.strongRecOn with
      | _ i ihi =>
        intro hi
        have ho : ops[i]? = some ops[i] := Array.getElem?_eq_getElem hi
        have hlt : i < listed.size := by omega
        cases hb : listed[i] with
        | true => rw [Array.getElem?_eq_getElem hlt, hb]
        | false =>
          have : i ∈ Region.ready .any ops listed := (ready_iffL ops hls _).2 ⟨_, ho, by rw [Array.getElem?_eq_getElem hlt, hb], fun j hj => by
            have h1 := dag_of hdag ho j hj
            exact ihi j h1 (by omega)⟩
          rw [hnil] at this; cases this
    · obtain ⟨o, ho, hun, hdeps⟩ := (ready_iffL ops hls i).1 hi
      have his := (Array.getElem?_eq_some_iff.1 ho).1
      have hil : i < listed.size := by omega
      have hlater : ∀ (k : Nat) (ok : Oper), ops[k]? = some ok → i ∈ deps ok → listed[k]? = some false := fun k ok hk hd => by
        have hks : k < listed.size := by rw [hls]; exact (Array.getElem?_eq_some_iff.1 hk).1
        cases hb : listed[k] with
        | false => rw [Array.getElem?_eq_getElem hks, hb]
        | true =>
          have := hcl k ok hk (by rw [Array.getElem?_eq_getElem hks, hb]) _ hd
          rw [hun] at this; cases this
      have hcl' : Closed ops (listed.setIfInBounds i true) := by
        intro k ok hk hl j hj
        by_cases hki : k = i
        · subst hki; rw [ho] at hk; cases hk
          have hne : k ≠ j := by have := dag_of hdag ho j hj; omega
          rw [Array.getElem?_setIfInBounds_ne hne]; exact hdeps j hj
        · rw [Array.getElem?_setIfInBounds_ne (Ne.symm hki)] at hl
          have := hcl k ok hk hl j hj
          by_cases hij : i = j
          · subst hij; rw [hun] at this; cases this
          · rw [Array.getElem?_setIfInBounds_ne hij]; exact this
      have hcnt' : (listed.setIfInBounds i true).toList.count false = f := by
        have h1 : listed.toList[i]? = some false := by simpa using hun
        have := count_set_true _ _ h1
        rw [Array.toList_setIfInBounds]; omega
      exact wpOp_mono (fun a' w' hI' => ih _ a' w' (by simpa using hls) hcnt' hcl' hI') (step listed a w i o hls hI ho hun hdeps hlater)
theorem wp_region_inv {id : Nat} {a : Act} {w : World} (hm : P.follows .mixedOrders = true) (hdag : dagB ops = true)
    (h : ∀ w1, Ext w w1 → ∃ Inv : Array Bool → Act → World → Prop, Inv (Array.replicate ops.size false) a w1 ∧
      (∀ (listed : Array Bool) (a : Act) (w : World) (i : Nat) (o : Oper), listed.size = ops.size → Inv listed a w → ops[i]? = some o → listed[i]? = some false → (∀ j ∈ deps o, listed[j]? = some true) → (∀ (k : Nat) (ok : Oper), ops[k]? = some ok → i ∈ deps ok → listed[k]? = some false) →
        wpOp P ops Q i (Inv (listed.setIfInBounds i true)) a w) ∧
      (∀ (listed : Array Bool) (a : Act) (w : World), (∀ i, i < ops.size → listed[i]? = some true) → Inv listed a w → Q .normal a w)) : (Code.region id ops true).wp P Q a w := by
  obtain ⟨Inv, h1, h2, h3⟩ := h { w with drawn := w.drawn + 1 } (Ext.refl w).drew
  refine wp_region_any hm (wpAny_inv hdag Inv h2 h3 _ _ a _ (by simp) (by simp) (fun i o hi hl => ?_) h1)
  have := (Array.getElem?_eq_some_iff.1 hi).1
  simp [this] at hl
end
theorem put_slots (a : Act) (d : Tmp) (v : Value) (hd : d < a.tmps.size) : (fun t => (a.put (some d) v).tmps.getD t undef) = fun t => if t = d then v else a.tmps.getD t undef := by
  funext t
  rw [Array.getD_eq_getD_getElem?, Act.put_get]
  by_cases h : t = d
  · subst h; simp [hd]
  · rw [if_neg (Ne.symm h), if_neg h, Array.getD_eq_getD_getElem?]
theorem put_listed (listed : Array Bool) (i : Nat) (hi : i < listed.size) : (fun j => (listed.setIfInBounds i true)[j]? = some true) = fun j => j = i ∨ listed[j]? = some true := by
  funext j
  by_cases h : j = i
  · subst h; simp [hi]
  · rw [Array.getElem?_setIfInBounds_ne (Ne.symm h)]; simp [h]
end Go.Proofs.YtajkjiegcmpjaaaGreat
namespace Go.Proofs.YtajkjiegcmpjaaaGreat
set_option maxRecDepth 100000
open Go.RowKit
section
variable {P : Program} {ops : Array Oper} {Q : Exit → Act → World → Prop}
structure IVal (w0 : World) (a0 : Act) (idx : List Nat) (dst : Nat → Nat) (V : Nat → Value → Prop) (al st : Nat) (zs : List Value) (U : List Value → Prop) (listed : Array Bool) (a : Act) (w : World) : Prop where
  sz : a.tmps.size = a0.tmps.size
  df : a.defers = a0.defers
  md : Ext w0 w
  out : ∀ t, (∀ i ∈ idx, t ≠ dst i) → a.tmps.getD t undef = a0.tmps.getD t undef
  val : ∀ i ∈ idx, i ≠ al → listed[i]? = some true → V i (a.tmps.getD (dst i) undef)
  cell : listed[al]? = some true → ∃ g cs, a.tmps.getD (dst al) undef = .pointer (some ⟨g, 0, none⟩) ∧ w0.heap.size ≤ g ∧ Fs w g cs ∧ (¬ listed[st]? = some true → cs = zs) ∧ (listed[st]? = some true → U cs)
theorem put_getD {a : Act} {d : Nat} {v : Value} (hd : d < a.tmps.size) (t : Nat) : (a.put (some d) v).tmps.getD t undef = if t = d then v else a.tmps.getD t undef := congrFun (put_slots a d v hd) t
theorem puts_all (a' : Act) (dst : Nat → Nat) : ∀ (idx : List Nat) (a : Act), (∀ i ∈ idx, dst i < a.tmps.size) →
    (idx.foldl (fun b i => b.put (some (dst i)) (a'.tmps.getD (dst i) undef)) a).tmps.size = a.tmps.size ∧ (idx.foldl (fun b i => b.put (some (dst i)) (a'.tmps.getD (dst i) undef)) a).defers = a.defers ∧
    ∀ t, (idx.foldl (fun b i => b.put (some (dst i)) (a'.tmps.getD (dst i) undef)) a).tmps.getD t undef = if t ∈ idx.map dst then a'.tmps.getD t undef else a.tmps.getD t undef
  | [], a, _ => ⟨rfl, rfl, fun t => by simp⟩
  | i :: r, a, h => by
    have h1 := h i (List.mem_cons_self ..)
    obtain ⟨e1, e2, e3⟩ := puts_all a' dst r (a.put (some (dst i)) (a'.tmps.getD (dst i) undef)) fun j hj => by rw [Act.put_size]; exact h j (List.mem_cons_of_mem _ hj)
    refine ⟨by rw [List.foldl_cons, e1, Act.put_size], by rw [List.foldl_cons, e2, Act.put_defers'], fun t => ?_⟩
    rw [List.foldl_cons, e3 t, put_getD h1, List.map_cons]
    by_cases hm : t ∈ r.map dst
    · rw [if_pos hm, if_pos (List.mem_cons_of_mem _ hm)]
    · rw [if_neg hm]
      by_cases hd : t = dst i
      · rw [if_pos hd, if_pos (by rw [hd]; exact List.mem_cons_self ..), hd]
      · rw [if_neg hd, if_neg (by intro h; rcases List.mem_cons.1 h with h | h; exact hd h; exact hm h)]
theorem act_eq {a b : Act} (h1 : a.tmps.size = b.tmps.size) (h2 : a.defers = b.defers) (h3 : ∀ t, a.tmps.getD t undef = b.tmps.getD t undef) : a = b := by
  obtain ⟨x, d⟩ := a
  obtain ⟨y, e⟩ := b
  simp only at h1 h2 h3
  subst h2
  congr 1
  refine Array.ext h1 fun i hi hj => ?_
  have := h3 i
  rwa [Array.getD_eq_getD_getElem?, Array.getD_eq_getD_getElem?, Array.getElem?_eq_getElem hi, Array.getElem?_eq_getElem hj] at this
theorem wp_region_val {id : Nat} {a : Act} {w : World} (idx : List Nat) (dst : Nat → Nat) (V : Nat → Value → Prop) (al st : Nat) (zs : List Value) (U : List Value → Prop)
    (hm : P.follows .mixedOrders = true) (hdag : dagB ops = true) (hidx : ((List.range ops.size).all fun i => i == st || idx.contains i) = true) (hal : al ∈ idx) (hst : st ∉ idx)
    (hinj : (idx.all fun i => idx.all fun j => i == j || !(dst i == dst j)) = true) (hlt : ∀ i ∈ idx, dst i < a.tmps.size) (hsa : ((ops[st]?).map fun o => (deps o).contains al).getD false = true) (hss : st < ops.size) (hib : (idx.all fun i => decide (i < ops.size)) = true)
    (steps : ∀ i ∈ idx, i ≠ al → ∀ (b : Act) (w' : World), Ext w w' → (∀ t, (∀ j ∈ idx, t ≠ dst j) → b.tmps.getD t undef = a.tmps.getD t undef) → (∀ j, j ∈ idx → j ≠ al → ((ops[i]?).map fun o => (deps o).contains j).getD false = true → V j (b.tmps.getD (dst j) undef)) →
      wpOp P ops Q i (fun b' w'' => ∃ x, b' = b.put (some (dst i)) x ∧ V i x ∧ Ext w' w'') b w')
    (alloc : ∀ (b : Act) (w' : World), wpOp P ops Q al (fun b' w'' => ∃ g, b' = b.put (some (dst al)) (.pointer (some ⟨g, 0, none⟩)) ∧ w'.heap.size ≤ g ∧ Ext w' w'' ∧ Fs w'' g zs) b w')
    (store : ∀ (b : Act) (w' : World) (g : Nat), Ext w w' → b.tmps.getD (dst al) undef = .pointer (some ⟨g, 0, none⟩) → Fs w' g zs → (∀ j, j ∈ idx → j ≠ al → ((ops[st]?).map fun o => (deps o).contains j).getD false = true → V j (b.tmps.getD (dst j) undef)) →
      wpOp P ops Q st (fun b' w'' => ∃ us, b' = b ∧ Mod (fun k => k = g) w' w'' ∧ Fs w'' g us ∧ U us) b w')
    (fin : ∀ (w' : World) (x : Nat → Value), Ext w w' → (∀ i ∈ idx, i ≠ al → V i (x i)) → (∃ g cs, x al = .pointer (some ⟨g, 0, none⟩) ∧ w.heap.size ≤ g ∧ Fs w' g cs ∧ U cs) → Q .normal (idx.foldl (fun b i => b.put (some (dst i)) (x i)) a) w') :
    (Code.region id ops true).wp P Q a w := by
  have hne : ∀ i ∈ idx, ∀ j ∈ idx, i ≠ j → dst i ≠ dst j := fun i hi j hj hij e => by
    simp only [List.all_eq_true, Bool.or_eq_true, beq_iff_eq, Bool.not_eq_true', beq_eq_false_iff_ne] at hinj
    exact (hinj i hi j hj).elim hij fun h => h e
  refine wp_region_inv hm hdag fun w1 hx1 => ⟨fun listed b w' => IVal w a idx dst V al st zs U listed b w', ⟨rfl, rfl, hx1, fun _ _ => rfl, fun i _ _ hl => ?_, fun hl => ?_⟩, ?_, ?_⟩
  · rw [Array.getElem?_replicate] at hl; split at hl <;> simp at hl
  · rw [Array.getElem?_replicate] at hl; split at hl <;> simp at hl
  · intro listed b w' i o hls h ho hun hdeps hlater
    have his := (Array.getElem?_eq_some_iff.1 ho).1
    have hil : i < listed.size := by omega
    have hL : ∀ j, (listed.setIfInBounds i true)[j]? = some true ↔ j = i ∨ listed[j]? = some true := fun j => by
      rw [show ((listed.setIfInBounds i true)[j]? = some true) = (j = i ∨ listed[j]? = some true) from congrFun (put_listed listed i hil) j]
    have hdep : ∀ j, ((ops[i]?).map fun o => (deps o).contains j).getD false = true → listed[j]? = some true := fun j hb => by
      rw [ho] at hb
      exact hdeps j (by simpa using hb)
    have hfst : i = al → ¬ listed[st]? = some true := fun e hl => by
      subst e
      cases hk : ops[st]? with
      | none => rw [hk] at hsa; cases hsa
      | some ok =>
        rw [hk] at hsa
        rw [hlater st ok hk (by simpa using hsa)] at hl; cases hl
    by_cases hs : i = st
    · subst hs
      have hla : listed[al]? = some true := hdep al hsa
      obtain ⟨g, cs, e1, e2, e3, e4, e5⟩ := h.cell hla
      have hnl : ¬ listed[i]? = some true := by rw [hun]; simp
      obtain rfl := e4 hnl
      refine wpOp_mono (fun b' w'' => ?_) (store b w' g h.md e1 e3 fun j hj hja hb => h.val j hj hja (hdep j hb))
      rintro ⟨us, rfl, hm2, f2, hU⟩
      refine ⟨h.sz, h.df, hm2.after h.md fun k hk => hk ▸ e2, h.out, fun j hj hja hl => h.val j hj hja (((hL j).1 hl).resolve_left fun e => hst (e ▸ hj)), fun _ => ⟨g, us, e1, e2, f2, fun hn => absurd ((hL i).2 (.inl rfl)) hn, fun _ => hU⟩⟩
    have hi : i ∈ idx := by
      simp only [List.all_eq_true, List.mem_range, Bool.or_eq_true, beq_iff_eq, List.contains_iff_mem] at hidx
      exact (hidx i his).resolve_left hs
    have hd : dst i < b.tmps.size := by rw [h.sz]; exact hlt i hi
    by_cases ha : i = al
    · subst ha
      refine wpOp_mono (fun b' w'' => ?_) (alloc b w')
      rintro ⟨g, rfl, hg, hx, f⟩
      refine ⟨by rw [Act.put_size]; exact h.sz, by rw [Act.put_defers']; exact h.df, h.md.trans hx, fun t ht => ?_, fun j hj hja hl => ?_, fun _ => ?_⟩
      · rw [put_getD hd, if_neg (ht i hi)]; exact h.out t ht
      · rw [put_getD hd, if_neg (hne j hj i hi hja)]; exact h.val j hj hja (((hL j).1 hl).resolve_left hja)
      · exact ⟨g, zs, by rw [put_getD hd, if_pos rfl], Nat.le_trans h.md.size hg, f, fun _ => rfl, fun hl => absurd (((hL st).1 hl).resolve_left fun e => hst (e ▸ hi)) (hfst rfl)⟩
    · refine wpOp_mono (fun b' w'' => ?_) (steps i hi ha b w' h.md h.out fun j hj hja hb => h.val j hj hja (hdep j hb))
      rintro ⟨x, rfl, hv, hx⟩
      refine ⟨by rw [Act.put_size]; exact h.sz, by rw [Act.put_defers']; exact h.df, h.md.trans hx, fun t ht => ?_, fun j hj hja hl => ?_, fun hl => ?_⟩
      · rw [put_getD hd, if_neg (ht i hi)]; exact h.out t ht
      · by_cases hji : j = i
        · subst hji; rw [put_getD hd, if_pos rfl]; exact hv
        · rw [put_getD hd, if_neg (hne j hj i hi hji)]; exact h.val j hj hja (((hL j).1 hl).resolve_left hji)
      · obtain ⟨g, cs, e1, e2, e3, e4, e5⟩ := h.cell (((hL al).1 hl).resolve_left fun e => ha e.symm)
        exact ⟨g, cs, by rw [put_getD hd, if_neg (hne al hal i hi fun e => ha e.symm)]; exact e1, e2, e3.ext hx, fun hn => e4 fun hl => hn ((hL st).2 (.inr hl)), fun hl => e5 (((hL st).1 hl).resolve_left fun e => hs e.symm)⟩
  · intro listed b w' hall h
    have hlb : ∀ i ∈ idx, listed[i]? = some true := fun i hi => by
      simp only [List.all_eq_true, decide_eq_true_eq] at hib
      exact hall i (hib i hi)
    obtain ⟨e1, e2, e3⟩ := puts_all b dst idx a hlt
    have he : b = idx.foldl (fun c i => c.put (some (dst i)) (b.tmps.getD (dst i) undef)) a := by
      refine act_eq (by rw [e1]; exact h.sz) (by rw [e2]; exact h.df) fun t => ?_
      rw [e3 t]
      by_cases hm : t ∈ idx.map dst
      · rw [if_pos hm]
      · rw [if_neg hm]
        exact h.out t fun i hi e => hm (List.mem_map.2 ⟨i, hi, e.symm⟩)
    rw [he]
    obtain ⟨g, cs, q1, q2, q3, _, q5⟩ := h.cell (hlb al hal)
    exact fin w' (fun i => b.tmps.getD (dst i) undef) h.md (fun i hi ha => h.val i hi ha (hlb i hi)) ⟨g, cs, q1, q2, q3, q5 (hall st hss)⟩
end
end Go.Proofs.YtajkjiegcmpjaaaGreat
namespace Go.Proofs.YtajkjiegcmpjaaaGreat
set_option maxRecDepth 100000
open Go.RowKit
section
variable {P : Program} {ops : Array Oper} {Q : Exit → Act → World → Prop}
def dno (no : List Nat) (dn : Nat → Nat) (i : Nat) : Option Nat := if no.contains i then none else some (dn i)
def onB (ops : Array Oper) (i j : Nat) : Bool := ((ops[i]?).map fun o => (deps o).contains j).getD false
structure IChn (a0 : Act) (idx wo no : List Nat) (dn : Nat → Nat) (V : Nat → Value → Prop) (J : Nat → Value → World → Prop) (listed : Array Bool) (a : Act) (w : World) : Prop where
  sz : a.tmps.size = a0.tmps.size
  df : a.defers = a0.defers
  out : ∀ t, (∀ i ∈ wo ++ idx, t ≠ dn i) → a.tmps.getD t undef = a0.tmps.getD t undef
  val : ∀ i ∈ idx, listed[i]? = some true → V i (a.tmps.getD (dn i) undef)
  st : ∃ k v, k ≤ wo.length ∧ (∀ m, m < wo.length → (listed[wo.getD m 0]? = some true ↔ m < k)) ∧ (0 < k → no.contains (wo.getD (k - 1) 0) = false → a.tmps.getD (dn (wo.getD (k - 1) 0)) undef = v) ∧ J k v w
theorem puts_allO (a' : Act) (no : List Nat) (dn : Nat → Nat) : ∀ (idx : List Nat) (a : Act), (∀ i ∈ idx, dn i < a.tmps.size) →
    (idx.foldl (fun b i => b.put (dno no dn i) (a'.tmps.getD (dn i) undef)) a).tmps.size = a.tmps.size ∧ (idx.foldl (fun b i => b.put (dno no dn i) (a'.tmps.getD (dn i) undef)) a).defers = a.defers ∧
    ∀ t, (idx.foldl (fun b i => b.put (dno no dn i) (a'.tmps.getD (dn i) undef)) a).tmps.getD t undef = if t ∈ (idx.filter fun i => !no.contains i).map dn then a'.tmps.getD t undef else a.tmps.getD t undef
  | [], a, _ => ⟨rfl, rfl, fun t => by simp⟩
  | i :: r, a, h => by
    by_cases hn : no.contains i = true
    · have e : dno no dn i = none := if_pos hn
      obtain ⟨e1, e2, e3⟩ := puts_allO a' no dn r a fun j hj => h j (List.mem_cons_of_mem _ hj)
      rw [List.foldl_cons, e, show a.put none (a'.tmps.getD (dn i) undef) = a from rfl]
      refine ⟨e1, e2, fun t => ?_⟩
      rw [e3 t, List.filter_cons_of_neg (by rw [hn]; decide)]
    · have e : dno no dn i = some (dn i) := if_neg hn
      have h1 := h i (List.mem_cons_self ..)
      obtain ⟨e1, e2, e3⟩ := puts_allO a' no dn r (a.put (some (dn i)) (a'.tmps.getD (dn i) undef)) fun j hj => by rw [Act.put_size]; exact h j (List.mem_cons_of_mem _ hj)
      rw [List.foldl_cons, e]
      refine ⟨by rw [e1, Act.put_size], by rw [e2, Act.put_defers'], fun t => ?_⟩
      rw [e3 t, put_getD h1, List.filter_cons_of_pos (by rw [show no.contains i = false from Bool.eq_false_iff.2 hn]; decide), List.map_cons]
      by_cases hm : t ∈ (r.filter fun i => !no.contains i).map dn
      · rw [if_pos hm, if_pos (List.mem_cons_of_mem _ hm)]
      · rw [if_neg hm]
        by_cases hd : t = dn i
        · rw [if_pos hd, if_pos (by rw [hd]; exact List.mem_cons_self ..), hd]
        · rw [if_neg hd, if_neg (by intro h; rcases List.mem_cons.1 h with h | h; exact hd h; exact hm h)]
theorem wp_region_chain {id : Nat} {a : Act} {w : World} (idx wo no : List Nat) (dn : Nat → Nat) (V : Nat → Value → Prop) (J : Nat → Value → World → Prop)
    (hm : P.follows .mixedOrders = true) (hdag : dagB ops = true) (hcov : ((List.range ops.size).all fun i => wo.contains i || idx.contains i) = true) (hdis : (idx.all fun i => !(wo.contains i) && !(no.contains i)) = true)
    (hib : ((wo ++ idx).all fun i => decide (i < ops.size)) = true) (hnd : wo.Nodup) (hno : (no.all fun i => (wo ++ idx).any fun j => !(no.contains j) && dn j == dn i) = true)
    (hinj : ((wo ++ idx).all fun i => (wo ++ idx).all fun j => i == j || no.contains i || no.contains j || !(dn i == dn j)) = true) (hlt : ∀ i ∈ wo ++ idx, dn i < a.tmps.size)
    (hch : ((List.range wo.length).all fun m => (m + 1 == wo.length) || onB ops (wo.getD (m + 1) 0) (wo.getD m 0)) = true)
    (j0 : ∀ w1, Ext w w1 → J 0 undef w1)
    (steps : ∀ i ∈ idx, ∀ (k : Nat) (v : Value) (b : Act) (w' : World), J k v w' → (∀ m, m < wo.length → onB ops (wo.getD m 0) i = true → k ≤ m) → (∀ m, m < wo.length → onB ops i (wo.getD m 0) = true → m < k) →
      (∀ t, (∀ j ∈ wo ++ idx, t ≠ dn j) → b.tmps.getD t undef = a.tmps.getD t undef) → (∀ j, j ∈ idx → onB ops i j = true → V j (b.tmps.getD (dn j) undef)) →
      wpOp P ops Q i (fun b' w'' => ∃ x, b' = b.put (some (dn i)) x ∧ V i x ∧ J k v w'') b w')
    (works : ∀ k, k < wo.length → ∀ (v : Value) (b : Act) (w' : World), J k v w' → (0 < k → no.contains (wo.getD (k - 1) 0) = false → b.tmps.getD (dn (wo.getD (k - 1) 0)) undef = v) →
      (∀ t, (∀ j ∈ wo ++ idx, t ≠ dn j) → b.tmps.getD t undef = a.tmps.getD t undef) → (∀ j, j ∈ idx → onB ops (wo.getD k 0) j = true → V j (b.tmps.getD (dn j) undef)) →
      wpOp P ops Q (wo.getD k 0) (fun b' w'' => ∃ x, b' = b.put (dno no dn (wo.getD k 0)) x ∧ J (k + 1) x w'') b w')
    (fin : ∀ (w' : World) (v : Value) (x : Nat → Value), J wo.length v w' → (∀ i ∈ idx, V i (x i)) → (0 < wo.length → no.contains (wo.getD (wo.length - 1) 0) = false → x (wo.getD (wo.length - 1) 0) = v) →
      Q .normal ((wo ++ idx).foldl (fun b i => b.put (dno no dn i) (x i)) a) w') :
    (Code.region id ops true).wp P Q a w := by
  simp only [List.all_eq_true, Bool.or_eq_true, Bool.and_eq_true, beq_iff_eq, Bool.not_eq_true', beq_eq_false_iff_ne, List.mem_range, decide_eq_true_eq] at hcov hdis hib hinj hch
  have hne : ∀ i ∈ wo ++ idx, ∀ j ∈ wo ++ idx, i ≠ j → no.contains i = false → no.contains j = false → dn i ≠ dn j := fun i hi j hj hij n1 n2 e => by
    rcases hinj i hi j hj with ((h | h) | h) | h
    · exact hij h
    · rw [n1] at h; cases h
    · rw [n2] at h; cases h
    · exact h e
  have hwm : ∀ m, m < wo.length → wo.getD m 0 ∈ wo := fun m hm => by
    rw [List.getD_eq_getElem?_getD, List.getElem?_eq_getElem hm]; exact List.getElem_mem hm
  have hwi : ∀ m n, m < wo.length → n < wo.length → wo.getD m 0 = wo.getD n 0 → m = n := fun m n hm hn e => by
    rw [List.getD_eq_getElem?_getD, List.getD_eq_getElem?_getD, List.getElem?_eq_getElem hm, List.getElem?_eq_getElem hn] at e
    exact (List.getElem_inj hnd).1 e
  refine wp_region_inv hm hdag fun w1 hx1 => ⟨fun listed b w' => IChn a idx wo no dn V J listed b w', ⟨rfl, rfl, fun _ _ => rfl, fun i _ hl => ?_, 0, undef, Nat.zero_le _, fun m hm => ⟨fun hl => ?_, fun h => absurd h (by omega)⟩, fun h => absurd h (by omega), j0 w1 hx1⟩, ?_, ?_⟩
  · rw [Array.getElem?_replicate] at hl; split at hl <;> simp at hl
  · rw [Array.getElem?_replicate] at hl; split at hl <;> simp at hl
  · intro listed b w' i o hls h ho hun hdeps hlater
    have his := (Array.getElem?_eq_some_iff.1 ho).1
    have hil : i < listed.size := by omega
    have hL : ∀ j, (listed.setIfInBounds i true)[j]? = some true ↔ j = i ∨ listed[j]? = some true := fun j => by
      rw [show ((listed.setIfInBounds i true)[j]? = some true) = (j = i ∨ listed[j]? = some true) from congrFun (put_listed listed i hil) j]
    have hdep : ∀ j, onB ops i j = true → listed[j]? = some true := fun j hb => by
      rw [onB, ho] at hb
      exact hdeps j (by simpa using hb)
    have hlat : ∀ k, onB ops k i = true → ¬ listed[k]? = some true := fun k hb hl => by
      cases hk : ops[k]? with
      | none => rw [onB, hk] at hb; cases hb
      | some ok =>
        rw [onB, hk] at hb
        rw [hlater k ok hk (by simpa using hb)] at hl; cases hl
    have hunl : ¬ listed[i]? = some true := by rw [hun]; simp
    obtain ⟨k, v, hk, hkl, hkv, hJ⟩ := h.st
    by_cases hw : i ∈ wo
    · obtain ⟨m, hml, hme⟩ := List.getElem_of_mem hw
      have hmi : wo.getD m 0 = i := by rw [List.getD_eq_getElem?_getD, List.getElem?_eq_getElem hml]; exact hme
      have hkm : k = m := by
        have h1 : k ≤ m := by
          rcases Nat.lt_or_ge m k with h2 | h2
          · exact absurd ((hkl m hml).2 h2) (by rw [hmi]; exact hunl)
          · exact h2
        rcases Nat.lt_or_ge k m with h2 | h2
        · obtain ⟨q, rfl⟩ : ∃ q, m = q + 1 := ⟨m - 1, by omega⟩
          have h3 := (hch q (by omega)).resolve_left (by omega)
          rw [hmi] at h3
          have := (hkl q (by omega)).1 (hdep _ h3)
          omega
        · omega
      subst hkm
      have hwk := works k hml v b w' hJ hkv h.out fun j hj hb => h.val j hj (hdep j (by rw [← hmi]; exact hb))
      rw [hmi] at hwk
      refine wpOp_mono (fun b' w'' => ?_) hwk
      rintro ⟨x, rfl, hJ'⟩
      have hd : dn i < b.tmps.size := by rw [h.sz]; exact hlt i (List.mem_append_left _ hw)
      have hki : ∀ m', m' < wo.length → ((listed.setIfInBounds i true)[wo.getD m' 0]? = some true ↔ m' < k + 1) := fun m' hm' => by
        rw [hL, hkl m' hm']
        constructor
        · rintro (e | e)
          · have := hwi m' k hm' hml (e.trans hmi.symm); omega
          · omega
        · intro e
          rcases Nat.lt_or_ge m' k with h2 | h2
          · exact .inr h2
          · have : m' = k := by omega
            exact .inl (by rw [this, hmi])
      by_cases hn : no.contains i = true
      · rw [show dno no dn i = none from if_pos hn, show b.put none x = b from rfl]
        refine ⟨h.sz, h.df, h.out, fun j hj hl => h.val j hj (((hL j).1 hl).resolve_left fun e => ?_), k + 1, x, hml, hki, fun _ hc => ?_, hJ'⟩
        · have := (hdis j hj).1
          rw [e] at this
          rw [List.contains_iff_mem.2 hw] at this; cases this
        · rw [Nat.add_sub_cancel, hmi, hn] at hc; cases hc
      · have hn' : no.contains i = false := by simpa using hn
        rw [show dno no dn i = some (dn i) from if_neg hn]
        refine ⟨by rw [Act.put_size]; exact h.sz, by rw [Act.put_defers']; exact h.df, fun t ht => ?_, fun j hj hl => ?_, k + 1, x, hml, hki, fun _ _ => ?_, hJ'⟩
        · rw [put_getD hd, if_neg (ht i (List.mem_append_left _ hw))]; exact h.out t ht
        · have hji : j ≠ i := fun e => by
            have := (hdis j hj).1
            rw [e, List.contains_iff_mem.2 hw] at this; cases this
          rw [put_getD hd, if_neg (hne j (List.mem_append_right _ hj) i (List.mem_append_left _ hw) hji (hdis j hj).2 hn')]
          exact h.val j hj (((hL j).1 hl).resolve_left hji)
        · rw [Nat.add_sub_cancel, hmi, put_getD hd, if_pos rfl]
    · have hi : i ∈ idx := by
        have := hcov i his
        rcases this with h1 | h1
        · exact absurd (List.contains_iff_mem.1 h1) hw
        · exact List.contains_iff_mem.1 h1
      have hd : dn i < b.tmps.size := by rw [h.sz]; exact hlt i (List.mem_append_right _ hi)
      refine wpOp_mono (fun b' w'' => ?_) (steps i hi k v b w' hJ (fun m hm hb => ?_) (fun m hm hb => (hkl m hm).1 (hdep _ hb)) h.out fun j hj hb => h.val j hj (hdep j hb))
      rotate_left
      · rcases Nat.lt_or_ge m k with h2 | h2
        · exact absurd ((hkl m hm).2 h2) (hlat _ hb)
        · exact h2
      rintro ⟨x, rfl, hv, hJ'⟩
      refine ⟨by rw [Act.put_size]; exact h.sz, by rw [Act.put_defers']; exact h.df, fun t ht => ?_, fun j hj hl => ?_, k, v, hk, fun m hm => ?_, fun h0 hc => ?_, hJ'⟩
      · rw [put_getD hd, if_neg (ht i (List.mem_append_right _ hi))]; exact h.out t ht
      · by_cases hji : j = i
        · subst hji; rw [put_getD hd, if_pos rfl]; exact hv
        · rw [put_getD hd, if_neg (hne j (List.mem_append_right _ hj) i (List.mem_append_right _ hi) hji (hdis j hj).2 (hdis i hi).2)]
          exact h.val j hj (((hL j).1 hl).resolve_left hji)
      · rw [hL, ← hkl m hm]
        exact ⟨fun e => e.resolve_left fun e => hw (e ▸ hwm m hm), .inr⟩
      · have hm1 := hwm (k - 1) (by omega)
        rw [put_getD hd, if_neg (hne _ (List.mem_append_left _ hm1) i (List.mem_append_right _ hi) (fun e => hw (e ▸ hm1)) hc (hdis i hi).2)]
        exact hkv h0 hc
  · intro listed b w' hall h
    obtain ⟨k, v, hk, hkl, hkv, hJ⟩ := h.st
    have hkf : k = wo.length := by
      rcases Nat.lt_or_ge k wo.length with h2 | h2
      · have := (hkl k h2).1 (hall _ (hib _ (List.mem_append_left _ (hwm k h2))))
        omega
      · omega
    subst hkf
    obtain ⟨e1, e2, e3⟩ := puts_allO b no dn (wo ++ idx) a hlt
    have he : b = (wo ++ idx).foldl (fun c i => c.put (dno no dn i) (b.tmps.getD (dn i) undef)) a := by
      refine act_eq (by rw [e1]; exact h.sz) (by rw [e2]; exact h.df) fun t => ?_
      rw [e3 t]
      by_cases hm : t ∈ ((wo ++ idx).filter fun i => !no.contains i).map dn
      · rw [if_pos hm]
      · rw [if_neg hm]
        refine h.out t fun i hi e => hm ?_
        by_cases hn : no.contains i = true
        · simp only [List.all_eq_true, List.any_eq_true, Bool.and_eq_true, beq_iff_eq] at hno
          obtain ⟨j, hj, hj1, hj2⟩ := hno i (List.contains_iff_mem.1 hn)
          exact List.mem_map.2 ⟨j, List.mem_filter.2 ⟨hj, hj1⟩, hj2.trans e.symm⟩
        · exact List.mem_map.2 ⟨i, List.mem_filter.2 ⟨hi, by simpa using hn⟩, e.symm⟩
    rw [he]
    exact fin w' v (fun i => b.tmps.getD (dn i) undef) hJ (fun i hi => h.val i hi (hall i (hib i (List.mem_append_right _ hi)))) hkv
theorem w_mvC {rest : List Oper} {o : Oper} {a : Act} {w : World} {v : Value} (x : Operand) (hgd : o.guard = none) (ho : o.op = .move x ∨ o.op = .assign x) (hv : a.eval x = v) (k : wpList P ops Q rest (a.put o.dst v) w) : wpList P ops Q (o :: rest) a w := by
  refine wpList_runs hgd ?_ k
  unfold Runs execOp
  rcases ho with ho | ho <;> simp [ho, hv]
theorem w_nilC {rest : List Oper} {o : Oper} {a : Act} {w : World} (x : Operand) {A : Addr} (hgd : o.guard = none) (ho : o.op = .nilCheck x) (hv : a.eval x = .pointer (some A)) (k : wpList P ops Q rest (a.put o.dst (.pointer (some A))) w) : wpList P ops Q (o :: rest) a w :=
  wpList_runs hgd (runs_nil x ho hv) k
end
end Go.Proofs.YtajkjiegcmpjaaaGreat
