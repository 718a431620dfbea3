/- A gate in memory: a struct, a set of strings, a map of bytes by name; what a map's turning leaves. -/
import Derived.Test.YtgbhbifdfcfamaaGtN
import Derived.Test.YtgbhbifdfcfamaaMg10
import Derived.Test.YtgbhbifdfcfamaaMapO
import Derived.Test.YtgbhbifdfcfamaaCont
import Derived.StringKeys
import Derived.Test.YtgbhbifdfcfamaaFL
namespace Go.Proofs.Ytgbhbifdfcfamaa
set_option maxRecDepth 100000
open Go.RowKit

theorem Try.stGa : St Try.prog 62 3 [.slice none 0 0, .map none, .map none] := St.of (by kernel_rfl) (by kernel_rfl) rfl
theorem Try.stE : St Try.prog 67 0 [] := St.of (by kernel_rfl) (by kernel_rfl) rfl
theorem zeroE (w : World) : (zeroValue 67).run Try.prog w = .ok (.agg #[]) w := by kernel_rfl
theorem zeroS (w : World) : (zeroValue 33).run Try.prog w = .ok (.slice none 0 0) w := by kernel_rfl
theorem Try.kI : Maps.Keyed Try.prog 3 := Maps.int_keyed Try.underlying3
theorem Try.kS : Maps.Keyed Try.prog 9 := Maps.string_keyed Try.underlying9
/-- A block that is a map. -/
def IsMapB (w : World) (k : Nat) : Prop := ∃ es c, w.heap[k]? = some (.map es c)
theorem mapB {w : World} {P : Program} {k : TypeId} {R : Value → Option (DataW Value × List MemPlace)} {b n : Nat} {D : DataW Value} (h : w.ownsMap P k R b n D) : IsMapB w b := by
  obtain ⟨es, c, hb, _⟩ := h; exact ⟨es, c, hb⟩
section
variable {F : Nat → Prop} {w w' : World}
theorem Sl.mapmod {v : Value} {xs : List Value} (h : Sl w v xs) (hm : Mod F w w') (hF : ∀ k, F k → IsMapB w k) : Sl w' v xs := by
  obtain ⟨A, c, rfl, h1, h2, h3⟩ := h
  refine ⟨A, c, rfl, h1, h2, fun k u hk => ?_⟩
  obtain ⟨ad, rfl, hc⟩ := h3 k u hk
  refine ⟨ad, rfl, ?_⟩
  rw [World.cell?_of_block (w := w) (hm.block _ (World.block_lt_of_cell? w _ hc) fun hf => ?_)]; exact hc
  obtain ⟨es, c, hq⟩ := hF _ hf
  simp [World.cell?, hq] at hc
theorem Fs.mapmod {g : Nat} {cs : List Value} (h : Fs w g cs) (hm : Mod F w w') (hF : ∀ k, F k → IsMapB w k) : Fs w' g cs :=
  h.mod hm fun hf => by
    obtain ⟨e, h⟩ := h
    obtain ⟨es, c, hq⟩ := hF _ hf
    rw [hq] at h; cases h
theorem own_mapmod {base : Nat} {e : TypeId} {v : Value} {xs : List Value} (h : w.ownsRow base e 1 v xs.length xs) (hm : Mod F w w') (hF : ∀ k, F k → IsMapB w k) : w'.ownsRow base e 1 v xs.length xs := by
  obtain ⟨hl, hn | ⟨g, cap, cur, hv, hg, hh, rest⟩⟩ := h
  · exact ⟨hl, .inl hn⟩
  · refine ⟨hl, .inr ⟨g, cap, cur, hv, hg, ?_, rest⟩⟩
    rw [hm.block g (Array.getElem?_eq_some_iff.1 hh).1 fun hf => ?_]
    · exact hh
    · obtain ⟨es, c, hq⟩ := hF _ hf
      rw [hq] at hh; cases hh
end
/-- The key of bytes. -/
def sk (x : List Nat) : Go.Lit := .string (strN x).data.toList
theorem sk_inj {x y : List Nat} (hx : ∀ c ∈ x, c < 256) (hy : ∀ c ∈ y, c < 256) (h : sk x = sk y) : x = y := strN_inj hx hy (ByteArray.ext (Array.toList_inj.1 (by unfold sk at h; injection h)))
theorem sk_key {x : List Nat} (h : x.length ≤ 140737488355328) : keyOf Try.prog 9 (.string (strN x)) = some (sk x) := WideMaps.keyOf_string_mk Try.underlying9 (by
  have e : (strN x).size = x.length := by show (x.map fun n => UInt8.ofNat n).toArray.size = _; simp
  rw [e]; unfold maxLen; omega)
theorem ik_wf {n : Int} (h0 : I64 n) : (Go.Lit.int .i64 n).wf = true := by
  obtain ⟨h1, h2⟩ := h0
  simp [Lit.wf, IntKind.min, IntKind.max, IntKind.signed, IntKind.bits]; omega
theorem ik_key {n : Int} (h0 : I64 n) : keyOf Try.prog 3 (.int .i64 n) = some (.int .i64 n) := Maps.keyOf_int_mk Try.underlying3 (ik_wf h0)
/-- What was said and can be read is in the set. -/
def SaidM (D : DataW Value) (S : List (List Nat)) : Prop := ∀ x, (∀ c ∈ x, c < 256) → Maps.has D (sk x) = decide (x ∈ S ∧ (rdMsg x).isSome = true)
def SLook (w : World) (g : Nat) (x : List Nat) (q : Bool) : Prop := ∃ (m : Nat) (D : DataW Value), w.ownsMap Try.prog 9 unitElem g m D ∧ Maps.has D (sk x) = q
def KLook (w : World) (g : Nat) (n : Int) (u : Value) (q : Bool) : Prop := ∃ m D, w.ownsMap Try.prog 3 tok g m D ∧ D.atKey (.int .i64 n) (.held (.slice none 0 0)) = .held u ∧ Maps.has D (.int .i64 n) = q
theorem SLook.ext {w w' : World} {g : Nat} {x : List Nat} {q : Bool} (h : SLook w g x q) (he : Ext w w') : SLook w' g x q := by
  obtain ⟨m, D, h1, h2⟩ := h; exact ⟨m, D, ownsMap_ext h1 he, h2⟩
theorem KLook.ext {w w' : World} {g : Nat} {n : Int} {u : Value} {q : Bool} (h : KLook w g n u q) (he : Ext w w') : KLook w' g n u q := by
  obtain ⟨m, D, h1, h2⟩ := h; exact ⟨m, D, ownsMap_ext h1 he, h2⟩
/-- The bytes by which each name is known. -/
def KnM (G : Nat → Prop) (w : World) (D : DataW Value) (g : GaD) : Prop := ∀ n, I64 n → match g.find n with
  | some b => Maps.has D (.int .i64 n) = true ∧ ∃ u, D.atKey (.int .i64 n) (.held (.slice none 0 0)) = .held u ∧ Byt w u b.bytes ∧ ∀ k, u.ownBlock = some k → G k ∧ k < w.heap.size
  | none => Maps.has D (.int .i64 n) = false ∧ D.atKey (.int .i64 n) (.held (.slice none 0 0)) = .held (.slice none 0 0)
/-- The gate at p, its maps at g1 and g2; all of it lies in G. -/
structure GaW (G : Nat → Prop) (w : World) (p g1 g2 : Nat) (v : Value) (g : GaD) : Prop where
  obj : Fs w p [v, .map (some g1), .map (some g2)]
  bad : Ints w v g.bad
  m1 : ∃ D, w.ownsMap Try.prog 9 unitElem g1 g.said.length D ∧ SaidM D g.said
  m2 : ∃ D, w.ownsMap Try.prog 3 tok g2 g.kn.length D ∧ KnM G w D g
  ne : g1 ≠ g2
  inG : G p ∧ G g1 ∧ G g2 ∧ ∀ k, v.ownBlock = some k → G k
  ok : g.Ok
def gm (g1 g2 : Nat) : Nat → Prop := fun k => k = g1 ∨ k = g2
section
variable {G F : Nat → Prop} {w w' : World} {p g1 g2 : Nat} {v : Value} {g : GaD}
theorem KnM.mod {D : DataW Value} (h : KnM G w D g) (hs : ∀ u l, Byt w u l → (∀ k, u.ownBlock = some k → G k) → Byt w' u l) (hz : w.heap.size ≤ w'.heap.size) : KnM G w' D g := fun n hn => by
  have h := h n hn
  revert h
  cases g.find n with
  | none => exact fun h => h
  | some b =>
    rintro ⟨h1, u, h2, h3, h4⟩
    exact ⟨h1, u, h2, hs _ _ h3 fun k hk => (h4 k hk).1, fun k hk => ⟨(h4 k hk).1, by have := (h4 k hk).2; omega⟩⟩
theorem GaW.mod (h : GaW G w p g1 g2 v g) (hm : Mod F w w') (hF : ∀ k, G k → ¬ F k) : GaW G w' p g1 g2 v g := by
  obtain ⟨D1, a1, a2⟩ := h.m1
  obtain ⟨D2, b1, b2⟩ := h.m2
  obtain ⟨i1, i2, i3, i4⟩ := h.inG
  exact ⟨h.obj.mod hm (hF _ i1), Sl.mod h.bad hm fun k hk => hF k (i4 k hk), ⟨D1, ownsMap_mod a1 hm (hF _ i2), a2⟩, ⟨D2, ownsMap_mod b1 hm (hF _ i3), b2.mod (fun u l hb hk => Sl.mod hb hm fun k hk' => hF k (hk k hk')) hm.size⟩, h.ne, h.inG, h.ok⟩
theorem GaW.ext (h : GaW G w p g1 g2 v g) (he : Ext w w') : GaW G w' p g1 g2 v g := h.mod (he.mod fun _ => False) fun _ _ => id
theorem GaW.maps (h : GaW G w p g1 g2 v g) : ∀ k, gm g1 g2 k → IsMapB w k := by
  obtain ⟨D1, a1, _⟩ := h.m1
  obtain ⟨D2, b1, _⟩ := h.m2
  rintro k (rfl | rfl)
  · exact mapB a1
  · exact mapB b1
theorem GaW.slook (h : GaW G w p g1 g2 v g) {x : List Nat} (hx : ∀ c ∈ x, c < 256) {q : Bool} (hq : decide (x ∈ g.said ∧ (rdMsg x).isSome = true) = q) : SLook w g1 x q := by
  obtain ⟨D1, a1, a2⟩ := h.m1
  exact ⟨_, D1, a1, by rw [a2 x hx, hq]⟩
theorem GaW.klook (h : GaW G w p g1 g2 v g) {n : Int} (hn : I64 n) {q : Bool} (hq : (g.find n).isSome = q) : ∃ u, KLook w g2 n u q ∧ ∀ b, g.find n = some b → Byt w u b.bytes := by
  obtain ⟨D2, b1, b2⟩ := h.m2
  have hb := b2 n hn
  revert hb hq
  cases g.find n with
  | none => rintro rfl ⟨h1, h2⟩; exact ⟨_, ⟨_, D2, b1, h2, h1⟩, fun b hb => nomatch hb⟩
  | some b => rintro rfl ⟨h1, u, h2, h3, _⟩; exact ⟨u, ⟨_, D2, b1, h2, h1⟩, fun c hc => by injection hc with hc; subst hc; exact h3⟩
/-- Both maps may have turned: what else there is stays. -/
theorem GaW.said (h : GaW G w p g1 g2 v g) {x : List Nat} {D : DataW Value} (hm : Mod (fun k => k = g1) w w') (hD : w'.ownsMap Try.prog 9 unitElem g1 (g.said.length + 1) D) (hs : SaidM D (g.said ++ [x])) : GaW G w' p g1 g2 v (g.tell x) := by
  have hF : ∀ k, k = g1 → IsMapB w k := fun k e => h.maps k (.inl e)
  obtain ⟨D2, b1, b2⟩ := h.m2
  exact ⟨h.obj.mapmod hm hF, Sl.mapmod h.bad hm hF, ⟨D, by rw [show (g.tell x).said.length = g.said.length + 1 from List.length_append]; exact hD, hs⟩,
    ⟨D2, ownsMap_mod b1 hm (fun e => h.ne e.symm), b2.mod (fun u l hb _ => Sl.mapmod hb hm hF) hm.size⟩, h.ne, h.inG, h.ok.tell⟩
/-- What can't be read is said: nothing turns in memory. -/
theorem GaW.mute (h : GaW G w p g1 g2 v g) {x : List Nat} (hr : rdMsg x = none) : GaW G w p g1 g2 v (g.tell x) := by
  obtain ⟨D1, a1, a2⟩ := h.m1
  refine ⟨h.obj, h.bad, ⟨D1, a1.mono (by show _ ≤ (g.said ++ [x]).length; rw [List.length_append]; omega), fun y hy => ?_⟩, h.m2, h.ne, h.inG, h.ok.tell⟩
  rw [a2 y hy, decide_eq_decide]
  constructor
  · rintro ⟨h1, h2⟩; exact ⟨List.mem_append_left _ h1, h2⟩
  · rintro ⟨h1, h2⟩
    refine ⟨(List.mem_append.1 h1).resolve_right fun e => ?_, h2⟩
    rw [List.mem_singleton.1 e, hr] at h2; cases h2
theorem SaidM.put {D : DataW Value} {S : List (List Nat)} {x : List Nat} {z : DataW Value} (h : SaidM D S) (hi : Maps.IsMap D) (hx : ∀ c ∈ x, c < 256) {m : MsgD} (hr : rdMsg x = some m) : SaidM (D.put (sk x) z) (S ++ [x]) := fun y hy => by
  by_cases e : y = x
  · subst e
    rw [Maps.has_put_same hi (k := sk y) trivial, eq_comm, decide_eq_true_iff]
    exact ⟨by simp, by rw [hr]; rfl⟩
  · rw [Maps.has_put_other (fun he => e (sk_inj hy hx he)), h y hy, decide_eq_decide]
    simp [e]
theorem KnM.put {D : DataW Value} {b : BlkD} {u : Value} (h : KnM G w D g) (hi : Maps.IsMap D) (hf : g.find b.name = none) (hu : Byt w u b.bytes) (hk : ∀ k, u.ownBlock = some k → G k ∧ k < w.heap.size) : KnM G w (D.put (.int .i64 b.name) (.held u)) (g.know b) := fun n hn => by
  by_cases e : n = b.name
  · subst e
    rw [GaD.find_know hf]
    exact ⟨Maps.has_put_same hi (k := .int .i64 b.name) trivial _, u, Maps.atKey_put_same hi (k := .int .i64 b.name) trivial _ _, hu, hk⟩
  · have hne : Go.Lit.int .i64 n ≠ .int .i64 b.name := fun he => e (by injection he)
    have h1 := h n hn
    rw [Maps.has_put_other hne, Maps.atKey_put_other hne]
    cases hq : g.find n with
    | some c => rw [GaD.find_stay hq]; rw [hq] at h1; exact h1
    | none =>
      have : (g.know b).find n = none := by
        unfold GaD.find GaD.know
        rw [List.find?_append, show List.find? _ g.kn = none from hq]
        simp [Ne.symm e]
      rw [this]; rw [hq] at h1; exact h1
theorem GaW.known (h : GaW G w p g1 g2 v g) {b : BlkD} {u : Value} {D2 : DataW Value} (h2 : w.ownsMap Try.prog 3 tok g2 g.kn.length D2) (hK : KnM G w D2 g) (hm : Mod (fun k => k = g2) w w') (hD : w'.ownsMap Try.prog 3 tok g2 (g.kn.length + 1) (D2.put (.int .i64 b.name) (.held u))) (hf : g.find b.name = none) (hb : b.Right) (hu : Byt w u b.bytes) (hk : ∀ k, u.ownBlock = some k → G k ∧ k < w.heap.size) :
    GaW G w' p g1 g2 v (g.know b) := by
  have hF : ∀ k, k = g2 → IsMapB w k := fun k e => h.maps k (.inr e)
  obtain ⟨D1, a1, a2⟩ := h.m1
  exact ⟨h.obj.mapmod hm hF, Sl.mapmod h.bad hm hF, ⟨D1, ownsMap_mod a1 hm h.ne, a2⟩,
    ⟨_, by rw [show (g.know b).kn.length = g.kn.length + 1 from List.length_append]; exact hD, (hK.put h2.isMap hf hu hk).mod (fun u l hb _ => Sl.mapmod hb hm hF) hm.size⟩, h.ne, h.inG, h.ok.know hb hf⟩
theorem GaW.mono (h : GaW G w p g1 g2 v g) {G' : Nat → Prop} (hs : ∀ k, G k → G' k) : GaW G' w p g1 g2 v g := by
  obtain ⟨D2, b1, b2⟩ := h.m2
  obtain ⟨i1, i2, i3, i4⟩ := h.inG
  refine ⟨h.obj, h.bad, h.m1, ⟨D2, b1, fun n hn => ?_⟩, h.ne, ⟨hs _ i1, hs _ i2, hs _ i3, fun k hk => hs _ (i4 k hk)⟩, h.ok⟩
  have := b2 n hn
  revert this
  cases g.find n with
  | none => exact id
  | some b => rintro ⟨h1, u, h2, h3, h4⟩; exact ⟨h1, u, h2, h3, fun k hk => ⟨hs _ (h4 k hk).1, (h4 k hk).2⟩⟩
end
section
variable {o : Oper} {ρ : Operand → Value} {w : World}
/-- _, ok := m[string(x)] -/
theorem runs_slook (x y : Operand) {g : Nat} {l : List Nat} {q : Bool} (ho : o.op = Op.lookup 59 x y true) (hx : ρ x = .map (some g)) (hy : ρ y = .string (strN l)) (hl : l.length ≤ 140737488355328) (h : SLook w g l q) : Runs Try.prog o ρ w (.tuple #[.agg #[], .bool q]) := by
  obtain ⟨m, D, h1, rfl⟩ := h
  obtain ⟨u, ps, hr, hu⟩ := h1.look_ok Try.kS Try.underlying59 (zeroE w) (zd := .agg []) (zp := []) rfl (sk_key hl)
  obtain ⟨rfl, _⟩ := unitElem_inv hu
  unfold Runs execOp
  simp [ho, hx, hy, hr]
/-- u, ok := m[n] -/
theorem runs_klook (x y : Operand) {g : Nat} {n : Int} {u : Value} {q : Bool} (ho : o.op = Op.lookup 60 x y true) (hx : ρ x = .map (some g)) (hy : ρ y = .int .i64 n) (hn : I64 n) (h : KLook w g n u q) : Runs Try.prog o ρ w (.tuple #[u, .bool q]) := by
  obtain ⟨m, D, h1, h2, rfl⟩ := h
  obtain ⟨u', ps, hr, hu⟩ := h1.look_ok Try.kI Try.underlying60 (zeroS w) (zd := .held (.slice none 0 0)) (zp := []) rfl (ik_key hn)
  rw [h2] at hu
  obtain ⟨rfl, _⟩ : u' = u ∧ ps = [] := by simpa [tok] using hu
  unfold Runs execOp
  simp [ho, hx, hy, hr]
theorem runs_klookv (x y : Operand) {g : Nat} {n : Int} {u : Value} {q : Bool} (ho : o.op = Op.lookup 60 x y false) (hx : ρ x = .map (some g)) (hy : ρ y = .int .i64 n) (hn : I64 n) (h : KLook w g n u q) : Runs Try.prog o ρ w u := by
  obtain ⟨m, D, h1, h2, rfl⟩ := h
  obtain ⟨u', ps, hr, hu⟩ := h1.lookup Try.kI Try.underlying60 (zeroS w) (zd := .held (.slice none 0 0)) (zp := []) rfl (ik_key hn)
  rw [h2] at hu
  obtain ⟨rfl, _⟩ : u' = u ∧ ps = [] := by simpa [tok] using hu
  unfold Runs execOp
  simp [ho, hx, hy, hr]
end
section
variable {ops : Array Oper} {rest : List Oper} {o : Oper} {a : Act} {Q : Exit → Act → World → Prop} {w : World}
/-- m[key] = val -/
theorem w_gput {k e : TypeId} {R : Value → Option (DataW Value × List MemPlace)} (K : Maps.Keyed Try.prog k) {t : TypeId} (ht : Try.prog.underlying t = some (.map k e)) (x y z : Operand) {g n : Nat} {D d : DataW Value} {key val : Value} {kl : Go.Lit} (hgd : o.guard = none) (ho : o.op = Op.mapUpdate t x y z) (hd : o.dst = none)
    (hx : a.eval x = .map (some g)) (hy : a.eval y = key) (hz : a.eval z = val) (h : w.ownsMap Try.prog k R g n D) (hn : n ≤ 1000000) (hkey : keyOf Try.prog k key = some kl) (hR : R val = some (d, []))
    (kk : ∀ w', Mod (fun j => j = g) w w' → w'.ownsMap Try.prog k R g (n + 1) (D.put kl d) → wpList Try.prog ops Q rest a w') : wpList Try.prog ops Q (o :: rest) a w := by
  refine wpList_mapUpdate_own w hgd x y z t ho k e K ht R g n D hx h (by unfold maxLen; omega) key val kl hy hz hkey d [] hR ?_
  intro w' h1 h2
  rw [hd]
  exact kk w' ⟨h2.os, h2.tape, h2.output, h2.size, fun j hj hne => h2.block j hj fun e => hne (by injection e)⟩ h1
/-- map[..]..{} -/
theorem w_gmake {k t : TypeId} {R : Value → Option (DataW Value × List MemPlace)} (hgd : o.guard = none) (ho : o.op = Op.makeMap t none)
    (kk : ∀ g w', w.heap.size ≤ g → Ext w w' → w'.ownsMap Try.prog k R g 0 (.map []) → wpList Try.prog ops Q rest (a.put o.dst (.map (some g))) w') : wpList Try.prog ops Q (o :: rest) a w := by
  refine wpList_plain hgd fun K hK => ?_
  have hk := hK _ _ (kk w.heap.size (w.alloc (.map #[] 0)) (Nat.le_refl _) ((Ext.refl w).alloc _) (World.ownsMap_made w Try.prog k R))
  unfold Oper.wp execOp
  simp [ho, run_makeMap, Result.andThen]
  exact hk
end
end Go.Proofs.Ytgbhbifdfcfamaa
