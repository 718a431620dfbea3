/- Frames by sets of blocks; blocks of cells that the call owns (structs behind pointers, boxed values); steps of a walk at them. · Steps of a walk at structs behind pointers and at boxed values: a field's address, a load, a store, a box, a variable, a struct written out, a whole struct read or written. · Steps of a walk at rows that the call owns: cut short, appended to, made, copied into, written to. · Slices of records (structs of n cells; n = 1: slices, numbers): what they read as, as steps of a walk. · Slices of records (structs of n cells) that the call owns: written out, appended to, read. · Steps of a walk: an array's element; structs whose fields are structs (a field's address, the inner struct read). · '[]byte("lit")' as steps of a walk. · A part of a slice of records, from the first one on; where the block of what was appended to lies. · append onto an owned slice of records, of a slice that may be empty. · Which kind of operation a walk stands at, looked at by its form alone: ahead of an arm, so that one that does not fit fails at once. · Owned slices of one-cell values (bytes, ints), whose block is new since W. -/
import Derived.Test.YtgbhbifdfcfamaaFA
import Derived.IntWalk
import Derived.Laws.MakeOwn
import Derived.Laws.CopyRow
import Derived.Laws.CopyOwn
import Derived.Lib.SlBytesConst
namespace Go.Proofs.Ytgbhbifdfcfamaa
set_option maxRecDepth 100000
open Go.RowKit

/-- w' is w, but for blocks of F and new ones. -/
structure Mod (F : Nat → Prop) (w w' : World) : Prop where
  os : w'.os = w.os
  tape : w'.tape = w.tape
  output : w'.output = w.output
  size : w.heap.size ≤ w'.heap.size
  block : ∀ k, k < w.heap.size → ¬ F k → w'.heap[k]? = w.heap[k]?

theorem Mod.refl (F : Nat → Prop) (w : World) : Mod F w w := ⟨rfl, rfl, rfl, Nat.le_refl _, fun _ _ _ => rfl⟩
theorem Mod.trans {F G : Nat → Prop} {a b c : World} (h : Mod F a b) (k : Mod G b c) (hs : ∀ i, i < a.heap.size → G i → F i) : Mod F a c :=
  ⟨k.os.trans h.os, k.tape.trans h.tape, k.output.trans h.output, Nat.le_trans h.size k.size,
   fun i hi hn => (k.block i (Nat.lt_of_lt_of_le hi h.size) fun hg => hn (hs i hi hg)).trans (h.block i hi hn)⟩
theorem Mod.mono {F G : Nat → Prop} {a b : World} (h : Mod F a b) (hs : ∀ i, i < a.heap.size → F i → G i) : Mod G a b :=
  ⟨h.os, h.tape, h.output, h.size, fun i hi hn => h.block i hi fun hf => hn (hs i hi hf)⟩
theorem Ext.mod {a b : World} (h : Ext a b) (F : Nat → Prop) : Mod F a b := ⟨h.os, h.tape, h.output, h.size, fun i hi _ => h.block i hi⟩
theorem Mod.ext {F : Nat → Prop} {a b : World} (h : Mod F a b) (hn : ∀ i, i < a.heap.size → ¬ F i) : Ext a b := ⟨h.os, h.tape, h.output, h.size, fun i hi => h.block i hi (hn i hi)⟩
theorem Mod.after {F : Nat → Prop} {a b c : World} (h : Ext a b) (k : Mod F b c) (hF : ∀ i, F i → a.heap.size ≤ i) : Ext a c :=
  ⟨k.os.trans h.os, k.tape.trans h.tape, k.output.trans h.output, Nat.le_trans h.size k.size,
   fun i hi => (k.block i (Nat.lt_of_lt_of_le hi h.size) fun hf => by have := hF i hf; omega).trans (h.block i hi)⟩
theorem Mod.setCell (w : World) (p : Addr) (u : Value) : Mod (fun k => k = p.block) w (w.setCell p u) :=
  ⟨rfl, rfl, rfl, by simp [World.setCell], fun k _ hk => Below.heap_setCell _ _ _ _ hk⟩
theorem Mod.grown {w w' : World} {v : Value} (h : w.grownBy w' v.ownBlock) : Mod (fun k => v.ownBlock = some k) w w' :=
  ⟨h.os, h.tape, h.output, h.size, fun k hk hn => h.block k hk fun e => hn e.symm⟩

/-- What may be written, F, became F': new blocks at most have come to it. -/
structure Upd (F F' : Nat → Prop) (w w' : World) : Prop where
  mod : Mod F w w'
  sub : ∀ k, F' k → F k ∨ (w.heap.size ≤ k ∧ k < w'.heap.size)
theorem Upd.refl (F : Nat → Prop) (w : World) : Upd F F w w := ⟨Mod.refl F w, fun _ h => .inl h⟩
theorem Upd.ofExt {w w' : World} (h : Ext w w') (F : Nat → Prop) : Upd F F w w' := ⟨h.mod F, fun _ h => .inl h⟩
theorem Upd.trans {F F' F'' : Nat → Prop} {a b c : World} (h : Upd F F' a b) (k : Upd F' F'' b c) : Upd F F'' a c :=
  ⟨h.mod.trans k.mod fun i hi hf => (h.sub i hf).resolve_right fun e => by omega,
   fun i hi => by
    have h1 := h.mod.size
    have h2 := k.mod.size
    rcases k.sub i hi with h3 | h3
    · rcases h.sub i h3 with h4 | h4
      · exact .inl h4
      · exact .inr ⟨h4.1, by omega⟩
    · exact .inr ⟨by omega, h3.2⟩⟩
theorem Upd.size {F F' : Nat → Prop} {a b : World} (h : Upd F F' a b) : a.heap.size ≤ b.heap.size := h.mod.size

/-- All that was there at W is as it was, and F is new since. -/
structure Out (W : World) (F : Nat → Prop) (w : World) : Prop where
  ext : Ext W w
  new : ∀ k, F k → W.heap.size ≤ k
theorem Out.start (W : World) : Out W (fun _ => False) W := ⟨Ext.refl W, fun _ h => h.elim⟩
theorem Out.upd {W w w' : World} {F F' : Nat → Prop} (h : Out W F w) (u : Upd F F' w w') : Out W F' w' :=
  ⟨Mod.after h.ext u.mod h.new, fun k hk => by
    have := h.ext.size
    rcases u.sub k hk with h1 | h1
    · exact h.new k h1
    · omega⟩
theorem Out.extend {W w w' : World} {F : Nat → Prop} (h : Out W F w) (u : Ext w w') : Out W F w' := ⟨h.ext.trans u, h.new⟩
theorem Out.mono {W w : World} {F F' : Nat → Prop} (h : Out W F w) (hs : ∀ k, F' k → F k) : Out W F' w := ⟨h.ext, fun k hk => h.new k (hs k hk)⟩

/-- Something else that is new turned. -/
theorem Out.other {W w w' : World} {F G : Nat → Prop} (h : Out W F w) (hm : Mod G w w') (hG : ∀ k, G k → W.heap.size ≤ k) : Out W F w' := ⟨hm.after h.ext hG, h.new⟩
/-- The slice v reads as xs, and lies outside of G. -/
structure Safe (G : Nat → Prop) (w : World) (v : Value) (xs : List Value) : Prop where
  sl : Sl w v xs
  off : ∀ k, v.ownBlock = some k → ¬ G k
  lt : ∀ k, v.ownBlock = some k → k < w.heap.size
theorem Sl.mod {F : Nat → Prop} {w w' : World} {v : Value} {xs : List Value} (h : Sl w v xs) (hm : Mod F w w') (hd : ∀ k, v.ownBlock = some k → ¬ F k) : Sl w' v xs := by
  obtain ⟨A, c, rfl, h1, h2, h3⟩ := h
  refine ⟨A, c, rfl, h1, h2, fun k u hk => ?_⟩
  obtain ⟨ad, rfl, hc⟩ := h3 k u hk
  refine ⟨ad, rfl, ?_⟩
  have hb : (ad.add k).block = ad.block := blk_add ad k
  have hlt := World.block_lt_of_cell? w _ hc
  rw [World.cell?_of_block (w := w) (hm.block _ hlt (by rw [hb]; exact hd ad.block rfl))]; exact hc
/-- The block of what reads as something is there. -/
theorem Sl.block_lt {w : World} {v : Value} {xs : List Value} (h : Sl w v xs) (hn : xs ≠ []) {k : Nat} (hk : v.ownBlock = some k) : k < w.heap.size := by
  obtain ⟨A, c, rfl, h1, h2, h3⟩ := h
  cases xs with
  | nil => exact absurd rfl hn
  | cons x r =>
    obtain ⟨ad, rfl, hc⟩ := h3 0 x rfl
    have hlt := World.block_lt_of_cell? w _ hc
    rw [blk_add] at hlt
    simp [Value.ownBlock] at hk; omega
/-- An empty slice reads as nothing everywhere. -/
theorem Sl.empty {w : World} (w' : World) {v : Value} (h : Sl w v []) : Sl w' v [] := by
  obtain ⟨A, c, rfl, h1, h2, h3⟩ := h
  exact ⟨A, c, rfl, h1, h2, fun k u hk => by simp at hk⟩
theorem Safe.ext {G : Nat → Prop} {w w' : World} {v : Value} {xs : List Value} (h : Safe G w v xs) (he : Ext w w') : Safe G w' v xs := ⟨h.sl.ext he, h.off, fun k hk => Nat.lt_of_lt_of_le (h.lt k hk) he.size⟩
theorem Safe.mod {G F : Nat → Prop} {w w' : World} {v : Value} {xs : List Value} (h : Safe G w v xs) (hm : Mod F w w') (hs : ∀ k, F k → G k) : Safe G w' v xs :=
  ⟨h.sl.mod hm fun k hk hf => h.off k hk (hs k hf), h.off, fun k hk => Nat.lt_of_lt_of_le (h.lt k hk) hm.size⟩
theorem Safe.mod' {G F : Nat → Prop} {w w' : World} {v : Value} {xs : List Value} (h : Safe G w v xs) (hm : Mod F w w') (hd : ∀ k, v.ownBlock = some k → ¬ F k) : Safe G w' v xs := ⟨h.sl.mod hm hd, h.off, fun k hk => Nat.lt_of_lt_of_le (h.lt k hk) hm.size⟩
theorem Safe.weak {G G' : Nat → Prop} {w : World} {v : Value} {xs : List Value} (h : Safe G w v xs) (hs : ∀ k, k < w.heap.size → G' k → G k) : Safe G' w v xs := ⟨h.sl, fun k hk hg => h.off k hk (hs k (h.lt k hk) hg), h.lt⟩
theorem Safe.upd {F F' : Nat → Prop} {w w' : World} {v : Value} {xs : List Value} (h : Safe F w v xs) (u : Upd F F' w w') : Safe F' w' v xs :=
  ⟨h.sl.mod u.mod h.off, fun k hk hf => (u.sub k hf).elim (h.off k hk) fun e => by have := h.lt k hk; omega, fun k hk => Nat.lt_of_lt_of_le (h.lt k hk) u.size⟩
theorem Safe.updU {F F' : Nat → Prop} {g : Nat} {w w' : World} {v : Value} {xs : List Value} (h : Safe (fun k => F k ∨ k = g) w v xs) (u : Upd F F' w w') : Safe (fun k => F' k ∨ k = g) w' v xs :=
  ⟨h.sl.mod u.mod fun k hk hf => h.off k hk (.inl hf), fun k hk hf => hf.elim (fun hf => (u.sub k hf).elim (fun e => h.off k hk (.inl e)) fun e => by have := h.lt k hk; omega) fun e => h.off k hk (.inr e), fun k hk => Nat.lt_of_lt_of_le (h.lt k hk) u.size⟩

/-- Block g holds the cells cs, and the call may write to it. -/
def Fs (w : World) (g : Nat) (cs : List Value) : Prop := ∃ e, w.heap[g]? = some (.cells cs.toArray e (0, 0))
theorem Fs.lt {w : World} {g : Nat} {cs : List Value} (h : Fs w g cs) : g < w.heap.size := by obtain ⟨e, h⟩ := h; exact (Array.getElem?_eq_some_iff.1 h).1
theorem Fs.mod {F : Nat → Prop} {w w' : World} {g : Nat} {cs : List Value} (h : Fs w g cs) (hm : Mod F w w') (hn : ¬ F g) : Fs w' g cs := by
  have hl := h.lt
  obtain ⟨e, h⟩ := h; exact ⟨e, by rw [hm.block g hl hn]; exact h⟩
theorem Fs.ext {w w' : World} {g : Nat} {cs : List Value} (h : Fs w g cs) (he : Ext w w') : Fs w' g cs := by
  have hl := h.lt
  obtain ⟨e, h⟩ := h; exact ⟨e, by rw [he.block g hl]; exact h⟩
theorem Fs.cell {w : World} {g : Nat} {cs : List Value} (h : Fs w g cs) {i : Nat} {u : Value} (hi : cs[i]? = some u) : w.cell? ⟨g, i, none⟩ = some u := by
  obtain ⟨e, h⟩ := h
  simp [World.cell?, h, hi]
theorem Fs.frozen {w : World} {g : Nat} {cs : List Value} (h : Fs w g cs) (i : Nat) : w.frozen? ⟨g, i, none⟩ = false := by
  obtain ⟨e, h⟩ := h
  simp [World.frozen?, h]
theorem Fs.alloc (w : World) (cs : Array Value) (e : TypeId) : Fs (w.alloc (.cells cs e)) w.heap.size cs.toList := ⟨e, by simpa using heap_alloc_new w (.cells cs e)⟩
theorem Fs.set {w : World} {g : Nat} {cs : List Value} (h : Fs w g cs) (i : Nat) (u : Value) : Fs (w.setCell ⟨g, i, none⟩ u) g (cs.set i u) := by
  obtain ⟨e, h⟩ := h
  refine ⟨e, ?_⟩
  simp [World.setCell, Array.getElem?_modify, h]

/-- The call owns the row v of one-cell values, all of whose blocks are in F. -/
structure Row (F : Nat → Prop) (w : World) (e : TypeId) (v : Value) (xs : List Value) : Prop where
  own : w.ownsRow 0 e 1 v xs.length xs
  inF : ∀ k, v.ownBlock = some k → F k
section row
variable {F G : Nat → Prop} {w w' : World} {e : TypeId} {v : Value} {xs : List Value}
theorem Row.mono (h : Row F w e v xs) (hs : ∀ k, F k → G k) : Row G w e v xs := ⟨h.own, fun k hk => hs k (h.inF k hk)⟩
theorem Row.sl (h : Row F w e v xs) : Sl w v xs := Sl.of_own h.own
theorem Row.nil (w : World) (e : TypeId) : Row F w e (.slice none 0 0) [] := ⟨own_nil w 0 e, fun k hk => by cases hk⟩
theorem Row.lt (h : Row F w e v xs) {k : Nat} (hk : v.ownBlock = some k) : k < w.heap.size := (h.own.lt k hk).2
theorem own_mod {base : Nat} (h : w.ownsRow base e 1 v xs.length xs) (hm : Mod F w w') (hd : ∀ k, v.ownBlock = some k → ¬ F k) : w'.ownsRow base e 1 v xs.length xs := by
  obtain ⟨hl, hn | ⟨g, cap, cur, hv, hg, hh, rest⟩⟩ := h
  · exact ⟨hl, .inl hn⟩
  · refine ⟨hl, .inr ⟨g, cap, cur, hv, hg, ?_, rest⟩⟩
    rw [hm.block g (Array.getElem?_eq_some_iff.1 hh).1 (hd g (by rw [hv]; rfl))]; exact hh
theorem Row.mod (h : Row F w e v xs) (hm : Mod G w w') (hd : ∀ k, F k → ¬ G k) : Row F w' e v xs := ⟨own_mod h.own hm fun k hk => hd k (h.inF k hk), h.inF⟩
theorem Row.ext (h : Row F w e v xs) (he : Ext w w') : Row F w' e v xs := ⟨own_ext h.own he, h.inF⟩
/-- What was owned from some block on, as a row. -/
theorem Row.of {base : Nat} (h : w.ownsRow base e 1 v xs.length xs) (hs : ∀ k, base ≤ k → k < w.heap.size → F k) : Row F w e v xs :=
  ⟨own_mono h (Nat.zero_le _), fun k hk => hs k (h.lt k hk).1 (h.lt k hk).2⟩
/-- Fewer of what is owned. -/
theorem own_take {base n : Nat} {g : Option Addr} {c : Nat} (h : w.ownsRow base e 1 v xs.length xs) (hv : v = .slice g xs.length c) (hn : n ≤ xs.length) :
    w.ownsRow base e 1 (.slice g n c) (xs.take n).length (xs.take n) := by
  have hl : (xs.take n).length = n := by simp; omega
  obtain ⟨_, hnil | ⟨g', cap, cur, hv', hb, hh, h1, h2, h3, h4⟩⟩ := h
  · obtain ⟨h0, h00⟩ := hnil
    rw [hv] at h0
    injection h0 with e1 e2 e3
    subst e1 e3
    have hxs : xs = [] := List.eq_nil_of_length_eq_zero h00
    subst hxs
    have hn0 : n = 0 := by simpa using hn
    subst hn0
    exact own_nil w base e
  · rw [hv] at hv'
    injection hv' with e1 e2 e3
    subst e1 e3
    refine ⟨by simp, .inr ⟨g', c, cur, by rw [hl], hb, hh, by rw [hl]; omega, h2, h3, ?_⟩⟩
    rw [hl, Nat.mul_one, ← h4, List.take_take, Nat.mul_one, Nat.min_eq_left hn]
end row
end Go.Proofs.Ytgbhbifdfcfamaa
namespace Go.Proofs.Ytgbhbifdfcfamaa
set_option maxRecDepth 100000
open Go.RowKit

/-- A struct type whose fields are one cell each. -/
structure St (P : Program) (t : TypeId) (n : Nat) (zs : List Value) : Prop where
  u : ∃ fs, P.underlying t = some (.struct fs) ∧ fs.size = n ∧ ∀ (i : Nat) (f : Field), fs[i]? = some f → f.offset = i ∧ (P.info? f.type).map (·.size) = some 1
  info : ∃ i : TypeInfo, P.info? t = some i ∧ i.zero = some (.agg zs.toArray) ∧ i.size = n
  zl : zs.length = n

section
variable {P : Program} {ops : Array Oper} {rest : List Oper} {o : Oper} {a : Act} {Q : Exit → Act → World → Prop} {w : World} {t : TypeId} {n : Nat} {zs : List Value}
/-- &p.f -/
theorem runs_field {ρ : Operand → Value} (E : St P t n zs) (x : Operand) (g i : Nat) (ho : o.op = .fieldAddr t x i) (hx : ρ x = .pointer (some ⟨g, 0, none⟩)) (hi : i < n) : Runs P o ρ w (.pointer (some ⟨g, i, none⟩)) := by
  obtain ⟨fs, hu, hs, hf⟩ := E.u
  have hfi : fs[i]? = some (fs[i]'(by omega)) := Array.getElem?_eq_getElem (by omega)
  obtain ⟨h1, h2⟩ := hf i _ hfi
  cases hq : P.info? (fs[i]'(by omega)).type with
  | none => rw [hq] at h2; simp at h2
  | some j =>
    have hj : j.size = 1 := by simpa [hq] using h2
    unfold Runs execOp
    have hadd := add_zero_off g i
    simp [ho, hx, Instr.fieldAt, Instr.sureAddr, run_underlying hu, hfi, fieldPlace, sizeOf, typeInfo, hq, hj, h1, hadd]
/-- p.f, a field of one cell -/
theorem runs_fload {ρ : Operand → Value} {ty : TypeId} (x : Operand) {g i : Nat} {cs : List Value} {u : Value} (ho : o.op = .load ty x) (hx : ρ x = .pointer (some ⟨g, i, none⟩)) (ha : (isAgg ty).run P w = .ok false w) (h : Fs w g cs) (hi : cs[i]? = some u) : Runs P o ρ w u := by
  have hc := h.cell hi
  unfold Runs execOp
  simp [ho, hx, go_sem, ha, hc]
theorem w_field (E : St P t n zs) (x : Operand) (g i : Nat) (hgd : o.guard = none) (ho : o.op = .fieldAddr t x i) (hx : a.eval x = .pointer (some ⟨g, 0, none⟩)) (hi : i < n)
    (k : wpList P ops Q rest (a.put o.dst (.pointer (some ⟨g, i, none⟩))) w) : wpList P ops Q (o :: rest) a w :=
  wpList_runs hgd (runs_field E x g i ho hx hi) k
theorem w_fload {ty : TypeId} (x : Operand) {g i : Nat} {cs : List Value} {u : Value} (hgd : o.guard = none) (ho : o.op = .load ty x) (hx : a.eval x = .pointer (some ⟨g, i, none⟩)) (h : Fs w g cs) (hi : cs[i]? = some u) (ha : ∀ w, (isAgg ty).run P w = .ok false w)
    (k : wpList P ops Q rest (a.put o.dst u) w) : wpList P ops Q (o :: rest) a w :=
  wpList_runs hgd (runs_fload x ho hx (ha w) h hi) k
/-- p.f = u, a field of one cell: the world under a new name. -/
theorem w_fstore {ty : TypeId} (x y : Operand) {g i : Nat} {cs : List Value} {u : Value} (hgd : o.guard = none) (ho : o.op = .store ty x y) (hd : o.dst = none) (hx : a.eval x = .pointer (some ⟨g, i, none⟩)) (hy : a.eval y = u) (h : Fs w g cs) (hi : i < cs.length) (hu : u.cells = #[u]) (h1 : u.oneCell' = true)
    (hs : (P.info? ty).map (·.size) = some 1) (k : ∀ w', Mod (fun k => k = g) w w' → Fs w' g (cs.set i u) → wpList P ops Q rest a w') : wpList P ops Q (o :: rest) a w := by
  cases hq : P.info? ty with
  | none => rw [hq] at hs; simp at hs
  | some i0 =>
    have hsz : i0.size = 1 := by simpa [hq] using hs
    refine wpList_plain hgd fun K hK => ?_
    have hr := run_store_one (P := P) hq hsz hu h1 (h.cell (List.getElem?_eq_getElem hi)) (h.frozen i)
    have hk := hK _ _ (k _ (Mod.setCell w ⟨g, i, none⟩ u) (h.set i u))
    unfold Oper.wp execOp
    simp only [ho, hx, hy, Sem.run_bind, hr, Result.andThen_ok, Sem.run_pure, Oper.upon, hd, Act.put]
    exact hk
/-- A value put into a block of its own: the world under a new name. -/
theorem w_box {ty : TypeId} (x : Operand) (cs : List Value) {v : Value} (hgd : o.guard = none) (ho : o.op = .box ty x) (hx : a.eval x = v) (hc : v.cells.toList = cs)
    (k : ∀ g w', w.heap.size ≤ g → Ext w w' → Fs w' g cs → wpList P ops Q rest (a.put o.dst (.pointer (some ⟨g, 0, none⟩))) w') : wpList P ops Q (o :: rest) a w := by
  refine wpList_plain hgd fun K hK => ?_
  have hk := hK _ _ (k _ _ (Nat.le_refl _) ((Ext.refl w).alloc (.cells v.cells ty)) (by subst hc; exact Fs.alloc w v.cells ty))
  unfold Oper.wp execOp
  simp [ho, hx, Instr.box, newVar, newRow]
  exact hk
/-- A variable of its own, of value zero. -/
theorem w_alloc (E : St P t n zs) (hgd : o.guard = none) (ho : o.op = .alloc t)
    (k : ∀ g w', w.heap.size ≤ g → Ext w w' → Fs w' g zs → wpList P ops Q rest (a.put o.dst (.pointer (some ⟨g, 0, none⟩))) w') : wpList P ops Q (o :: rest) a w := by
  obtain ⟨i0, hi, hz, hs⟩ := E.info
  refine wpList_plain hgd fun K hK => ?_
  have hk := hK _ _ (k _ _ (Nat.le_refl _) ((Ext.refl w).alloc (.cells zs.toArray t)) (by simpa using Fs.alloc w zs.toArray t))
  unfold Oper.wp execOp
  simp [ho, Instr.alloc, newVar, newRow, zeroValue, typeInfo, hi, hz, Value.cells]
  exact hk
theorem run_loadVar_agg (E : St P t n zs) {g : Nat} {cs : List Value} (h : Fs w g cs) (hl : cs.length = n) : (loadVar t ⟨g, 0, none⟩).run P w = .ok (.agg cs.toArray) w := by
  obtain ⟨fs, hu, _, _⟩ := E.u
  obtain ⟨i0, hi, _, hs⟩ := E.info
  have hc := run_loadCells_list (P := P) w ⟨g, 0, none⟩ cs (fun j u hj => by rw [add_zero_off]; exact h.cell hj)
  rw [hl] at hc
  simp [loadVar, isAgg, run_underlying hu, sizeOf, typeInfo, hi, hs, hc]
/-- The whole struct, read. -/
theorem w_aload (E : St P t n zs) (x : Operand) {g : Nat} {cs : List Value} (hgd : o.guard = none) (ho : o.op = .load t x) (hx : a.eval x = .pointer (some ⟨g, 0, none⟩)) (h : Fs w g cs) (hl : cs.length = n)
    (k : wpList P ops Q rest (a.put o.dst (.agg cs.toArray)) w) : wpList P ops Q (o :: rest) a w := by
  refine wpList_runs hgd ?_ k
  unfold Runs execOp
  simp [ho, hx, Instr.loadAt, Instr.sureAddr, run_loadVar_agg E h hl]
/-- A result that is a struct in a variable. -/
theorem ret_one (E : St P t n zs) {fn : Func} {s g : Nat} {cs : List Value} {tmps : Array Value} (hrs : fn.results = #[.cell s t]) (hp : tmps.getD s undef = .pointer (some ⟨g, 0, none⟩)) (h : Fs w g cs) (hl : cs.length = n) :
    (results fn tmps).run P w = .ok (.agg cs.toArray) w := by
  have hr := run_loadVar_agg E h hl
  rw [Array.getD_eq_getD_getElem?] at hp
  simp only [results, hrs]
  simp [hp, asAddr, hr]
theorem ret_two (E : St P t n zs) {fn : Func} {s s' g : Nat} {cs : List Value} {tmps : Array Value} {v : Value} (hrs : fn.results = #[.cell s t, .tmp s']) (hp : tmps.getD s undef = .pointer (some ⟨g, 0, none⟩)) (hv : tmps.getD s' undef = v) (h : Fs w g cs) (hl : cs.length = n) :
    (results fn tmps).run P w = .ok (.tuple #[.agg cs.toArray, v]) w := by
  have hr := run_loadVar_agg E h hl
  rw [Array.getD_eq_getD_getElem?] at hp hv
  simp only [results, hrs]
  simp [hp, hv, asAddr, hr]
theorem setCells_fs : ∀ (us : List Value) (i : Nat) {w : World} {g : Nat} {pre post old : List Value}, Fs w g (pre ++ old ++ post) → pre.length = i → old.length = us.length → Fs (w.setCells g i us) g (pre ++ us ++ post)
  | [], _, w, g, pre, post, old, h, _, hl => by
    obtain rfl : old = [] := List.eq_nil_of_length_eq_zero hl
    exact h
  | u :: us, i, w, g, pre, post, old, h, hp, hl => by
    cases old with
    | nil => simp at hl
    | cons u0 old =>
      have h1 : Fs (w.setCell ⟨g, i, none⟩ u) g ((pre ++ [u]) ++ old ++ post) := by
        have := h.set i u
        rw [List.append_assoc, List.set_append_right _ _ (by omega)] at this
        have e : i - pre.length = 0 := by omega
        rw [e] at this
        simpa using this
      have := setCells_fs us (i + 1) h1 (by simp; omega) (by simpa using hl)
      simpa [World.setCells] using this
theorem setCells_mod : ∀ (us : List Value) (i : Nat) (w : World) (g : Nat), Mod (fun k => k = g) w (w.setCells g i us)
  | [], _, w, g => Mod.refl _ w
  | u :: us, i, w, g => by
    have := (Mod.setCell w ⟨g, i, none⟩ u).trans (setCells_mod us (i + 1) (w.setCell ⟨g, i, none⟩ u) g) (F := fun k => k = g) (fun k _ h => h)
    simpa [World.setCells] using this
/-- The whole struct, written: the world under a new name. -/
theorem w_astore (E : St P t n zs) (x y : Operand) {g : Nat} {cs us : List Value} (hgd : o.guard = none) (ho : o.op = .store t x y) (hd : o.dst = none) (hx : a.eval x = .pointer (some ⟨g, 0, none⟩)) (hy : a.eval y = .agg us.toArray) (h : Fs w g cs) (hl : cs.length = n) (hl' : us.length = n) (h1 : ∀ u ∈ us, u.oneCell' = true)
    (k : ∀ w', Mod (fun k => k = g) w w' → Fs w' g us → wpList P ops Q rest a w') : wpList P ops Q (o :: rest) a w := by
  obtain ⟨i0, hi, _, hs⟩ := E.info
  refine wpList_plain hgd fun K hK => ?_
  have hr := run_storeCells_cells (P := P) g 0 us 0 w (fun j hj => by
    have hj' : j < cs.length := by omega
    simp [h.cell (List.getElem?_eq_getElem hj')]) (fun j _ => by simpa using h.frozen j) h1
  have hk := hK _ _ (k _ (setCells_mod us 0 w g) (by
    have := setCells_fs us 0 (pre := []) (post := []) (old := cs) (w := w) (g := g) (by simpa using h) rfl (by omega)
    simpa using this))
  unfold Oper.wp execOp
  simp only [ho, hx, hy, Sem.run_bind, Instr.storeAt, storeVar, Instr.sureAddr, Sem.run_pure, Result.andThen_ok, sizeOf, typeInfo]
  simp [hi, hs, hl', Value.cells]
  simp at hr
  simp [hr, Oper.upon, hd, Act.put]
  exact hk
end
theorem fill_st : ∀ (ps : List (Nat × Value)) (cs : List Value) (places : Nat → Option (Nat × Nat)), (∀ p ∈ ps, places p.1 = some (p.1, 1) ∧ p.1 < cs.length ∧ p.2.cells = #[p.2]) →
    Instr.fill places cs.toArray ps = some (ps.foldl (fun acc p => acc.set p.1 p.2) cs).toArray
  | [], cs, _, _ => rfl
  | (i, v) :: ps, cs, places, h => by
    obtain ⟨h1, h2, h3⟩ := h (i, v) (List.mem_cons_self ..)
    simp only at h1 h2 h3
    have ih := fill_st ps (cs.set i v) places fun p hp => by
      have := h p (List.mem_cons_of_mem _ hp); simpa using this
    have h4 : ¬ cs.length < i + 1 := by omega
    simp only [Instr.fill, h1, h3, List.foldl_cons]
    simp [Array.zipIdx, h4]
    simpa using ih
theorem run_places {P : Program} {w : World} : ∀ (l : List Field) (k : Nat), (∀ (i : Nat) (f : Field), l[i]? = some f → f.offset = k + i ∧ (sizeOf f.type).run P w = .ok 1 w) →
    (l.mapM fun f => (do pure (f.offset, ← sizeOf f.type) : Sem (Nat × Nat))).run P w = .ok ((List.range l.length).map fun i => (k + i, 1)) w
  | [], k, _ => by simp
  | f :: l, k, h => by
    obtain ⟨h1, h2⟩ := h 0 f rfl
    have ih := run_places l (k + 1) fun i g hg => by
      obtain ⟨h4, h5⟩ := h (i + 1) g (by simpa using hg)
      exact ⟨by omega, h5⟩
    rw [List.mapM_cons, Sem.run_bind, Sem.run_bind, h2, Result.andThen_ok, Sem.run_pure, Result.andThen_ok, Sem.run_bind, ih, Result.andThen_ok, Sem.run_pure, h1]
    congr 1
    rw [List.length_cons, List.range_succ_eq_map]
    simp [Function.comp_def, Nat.add_assoc, Nat.add_comm 1]
/-- A struct written out. -/
theorem runs_sbuild {P : Program} {o : Oper} {ρ : Operand → Value} {w : World} {t : TypeId} {n : Nat} {zs : List Value} (E : St P t n zs) {ps : Array (Nat × Operand)} (us : List Value) (ho : o.op = .build t ps)
    (hps : ((ps.toList.map fun x => (x.1, ρ x.2)).foldl (fun acc p => acc.set p.1 p.2) zs) = us) (hone : ∀ p ∈ ps.toList, p.1 < n ∧ (ρ p.2).cells = #[ρ p.2]) : Runs P o ρ w (.agg us.toArray) := by
  obtain ⟨fs, hu, hfs, hf⟩ := E.u
  obtain ⟨i0, hi, hz, hs⟩ := E.info
  have hmap := run_places (P := P) (w := w) fs.toList 0 fun i f h => by
    obtain ⟨h1, h2⟩ := hf i f (by simpa using h)
    refine ⟨by omega, ?_⟩
    cases hq : P.info? f.type with
    | none => rw [hq] at h2; simp at h2
    | some ti =>
      have : ti.size = 1 := by simpa [hq] using h2
      simp [sizeOf, typeInfo, hq, this]
  have hmap' : (fs.mapM fun f => (do pure (f.offset, ← sizeOf f.type) : Sem (Nat × Nat))).run P w = .ok ((List.range fs.size).map fun i => (i, 1)).toArray w := by
    rw [Array.mapM_eq_mapM_toList, map_eq_pure_bind, Sem.run_bind, hmap, Result.andThen_ok, Sem.run_pure]
    simp
  have hfill := fill_st (ps.toList.map fun x => (x.1, ρ x.2)) zs (fun i => ((List.range fs.size).map fun i => (i, 1)).toArray[i]?) fun p hp => by
    obtain ⟨q, hq, rfl⟩ := List.mem_map.1 hp
    obtain ⟨h1, h2⟩ := hone q hq
    have hl := E.zl
    refine ⟨?_, by simpa [hl] using h1, h2⟩
    have : q.1 < fs.size := by omega
    simp [this]
  rw [hps] at hfill
  have hpl : (ps.map fun x => (x.1, ρ x.2)).toList = ps.toList.map fun x => (x.1, ρ x.2) := by simp
  unfold Runs execOp
  rw [ho]
  show ((do pure (.value (← Instr.build t (ps.map fun x => (x.1, ρ x.2)))) : Sem Next)).run P w = _
  rw [Sem.run_bind]
  have hb : (Instr.build t (ps.map fun x => (x.1, ρ x.2))).run P w = .ok (.agg us.toArray) w := by
    unfold Instr.build
    have hzv : (zeroValue t).run P w = .ok (.agg zs.toArray) w := by simp [zeroValue, typeInfo, hi, hz]
    rw [Sem.run_bind, hzv, Result.andThen_ok]
    dsimp only
    rw [Sem.run_bind, run_underlying hu, Result.andThen_ok]
    dsimp only
    rw [Sem.run_bind, hmap', Result.andThen_ok]
    dsimp only [Value.cells]
    rw [hpl, hfill]
    rfl
  rw [hb]
  rfl
theorem w_sbuild {P : Program} {ops : Array Oper} {rest : List Oper} {o : Oper} {a : Act} {Q : Exit → Act → World → Prop} {w : World} {t : TypeId} {n : Nat} {zs : List Value} (E : St P t n zs) {ps : Array (Nat × Operand)} (us : List Value) (hgd : o.guard = none) (ho : o.op = .build t ps)
    (hps : ((ps.toList.map fun x => (x.1, a.eval x.2)).foldl (fun acc p => acc.set p.1 p.2) zs) = us) (hone : ∀ p ∈ ps.toList, p.1 < n ∧ (a.eval p.2).cells = #[a.eval p.2])
    (k : wpList P ops Q rest (a.put o.dst (.agg us.toArray)) w) : wpList P ops Q (o :: rest) a w := wpList_runs hgd (runs_sbuild E us ho hps hone) k
/-- A struct type of n fields of one cell each, for the kernel. -/
def stB (P : Program) (t : TypeId) (n : Nat) : Bool := match P.underlying t with
  | some (.struct fs) => fs.size == n && (List.range n).all fun i => match fs[i]? with
    | some f => f.offset == i && (P.info? f.type).map (·.size) == some 1
    | none => false
  | _ => false
theorem St.of {P : Program} {t : TypeId} {n : Nat} {zs : List Value} (h : stB P t n = true) (hz : (P.info? t).map (fun i => (i.zero, i.size)) = some (some (.agg zs.toArray), n)) (hl : zs.length = n) : St P t n zs := by
  refine ⟨?_, ?_, hl⟩
  · unfold stB at h
    cases hu : P.underlying t with
    | none => rw [hu] at h; cases h
    | some u =>
      rw [hu] at h
      cases u <;> try cases h
      rename_i fs
      simp only [Bool.and_eq_true, beq_iff_eq, List.all_eq_true, List.mem_range] at h
      obtain ⟨h1, h2⟩ := h
      refine ⟨fs, rfl, h1, fun i f hi => ?_⟩
      have hlt : i < n := by rw [← h1]; exact (Array.getElem?_eq_some_iff.1 hi).1
      have := h2 i hlt
      rw [hi] at this
      simpa using this
  · cases hq : P.info? t with
    | none => rw [hq] at hz; simp at hz
    | some i => rw [hq] at hz; simp at hz; exact ⟨i, rfl, hz.1, hz.2⟩

/-! ### Integers -/
section
variable {P : Program} {o : Oper} {ρ : Operand → Value} {w : World} {ty ty' : TypeId} {p q : Int} {k : IntKind}
theorem runs_min (x y : Operand) (r : Int) (hr : r = min p q) (ho : o.op = .call { callee := .builtin .min, args := #[x, y], argTypes := #[ty, ty'] }) (hx : ρ x = .int k p) (hy : ρ y = .int k q) : Runs P o ρ w (.int k r) := by
  unfold Runs execOp
  have e : (if q < p then q else p) = min p q := by split <;> omega
  simp [ho, resolve, invoke, builtin, hx, hy, run_min_int2, e, hr]
theorem runs_max (x y : Operand) (r : Int) (hr : r = max p q) (ho : o.op = .call { callee := .builtin .max, args := #[x, y], argTypes := #[ty, ty'] }) (hx : ρ x = .int k p) (hy : ρ y = .int k q) : Runs P o ρ w (.int k r) := by
  unfold Runs execOp
  have e : (if p < q then q else p) = max p q := by split <;> omega
  simp [ho, resolve, invoke, builtin, hx, hy, run_max_int2, e, hr]
theorem runs_sub (x y : Operand) (r : Int) (hr : r = p - q) (hb : -9223372036854775808 ≤ p - q ∧ p - q ≤ 9223372036854775807) (ho : o.op = .binOp .sub ty x y ty) (hx : ρ x = .int .i64 p) (hy : ρ y = .int .i64 q) : Runs P o ρ w (.int .i64 r) := by
  unfold Runs execOp
  have e : IntKind.i64.wrap (p - q) = p - q := IntWalk.i64_in _ hb
  simp [ho, hx, hy, eqGuard, binOp, go_sem]
  rw [hr]; simpa using e
theorem runs_add (x y : Operand) (r : Int) (hr : r = p + q) (hb : -9223372036854775808 ≤ p + q ∧ p + q ≤ 9223372036854775807) (ho : o.op = .binOp .add ty x y ty) (hx : ρ x = .int .i64 p) (hy : ρ y = .int .i64 q) : Runs P o ρ w (.int .i64 r) := by
  unfold Runs execOp
  have e : IntKind.i64.wrap (p + q) = p + q := IntWalk.i64_in _ hb
  simp [ho, hx, hy, eqGuard, binOp, go_sem]
  rw [hr]; simpa using e
theorem runs_mul (x y : Operand) (r : Int) (hr : r = p * q) (hb : -9223372036854775808 ≤ p * q ∧ p * q ≤ 9223372036854775807) (ho : o.op = .binOp .mul ty x y ty) (hx : ρ x = .int .i64 p) (hy : ρ y = .int .i64 q) : Runs P o ρ w (.int .i64 r) := by
  unfold Runs execOp
  have e : IntKind.i64.wrap (p * q) = p * q := IntWalk.i64_in _ hb
  simp [ho, hx, hy, eqGuard, binOp, go_sem]
  rw [hr]; simpa using e
theorem runs_nil (x : Operand) {A : Addr} (ho : o.op = .nilCheck x) (hx : ρ x = .pointer (some A)) : Runs P o ρ w (.pointer (some A)) := by
  unfold Runs execOp
  simp [ho, hx]
theorem runs_aload {t : TypeId} {n : Nat} {zs : List Value} (E : St P t n zs) (x : Operand) {g : Nat} {cs : List Value} (ho : o.op = .load t x) (hx : ρ x = .pointer (some ⟨g, 0, none⟩)) (h : Fs w g cs) (hl : cs.length = n) : Runs P o ρ w (.agg cs.toArray) := by
  unfold Runs execOp
  simp [ho, hx, Instr.loadAt, Instr.sureAddr, run_loadVar_agg E h hl]
end
section
variable {P : Program} {ops : Array Oper} {rest : List Oper} {o : Oper} {a : Act} {Q : Exit → Act → World → Prop} {w : World} {ty ty' : TypeId} {p q : Int} {k : IntKind}
/-- min and max of two integers. -/
theorem w_min (x y : Operand) (r : Int) (hr : r = min p q) (hgd : o.guard = none) (ho : o.op = .call { callee := .builtin .min, args := #[x, y], argTypes := #[ty, ty'] }) (hx : a.eval x = .int k p) (hy : a.eval y = .int k q) (h : wpList P ops Q rest (a.put o.dst (.int k r)) w) : wpList P ops Q (o :: rest) a w :=
  wpList_runs hgd (runs_min x y r hr ho hx hy) h
theorem w_max (x y : Operand) (r : Int) (hr : r = max p q) (hgd : o.guard = none) (ho : o.op = .call { callee := .builtin .max, args := #[x, y], argTypes := #[ty, ty'] }) (hx : a.eval x = .int k p) (hy : a.eval y = .int k q) (h : wpList P ops Q rest (a.put o.dst (.int k r)) w) : wpList P ops Q (o :: rest) a w :=
  wpList_runs hgd (runs_max x y r hr ho hx hy) h
end
theorem agg_of {P : Program} {ty : TypeId} (h : (match P.underlying ty with | some (.struct _) => true | some (.array _ _) => true | none => true | _ => false) = false) (w : World) : (isAgg ty).run P w = .ok false w := by
  cases hu : P.underlying ty with
  | none => rw [hu] at h; cases h
  | some u =>
    rw [hu] at h
    unfold isAgg
    simp only [Sem.run_bind, run_underlying hu, Result.andThen_ok]
    cases u <;> first | rfl | cases h
end Go.Proofs.Ytgbhbifdfcfamaa
namespace Go.Proofs.Ytgbhbifdfcfamaa
set_option maxRecDepth 100000
open Go.RowKit

/-- F, and what is new. -/
def grow (F : Nat → Prop) (w w' : World) : Nat → Prop := fun k => F k ∨ (w.heap.size ≤ k ∧ k < w'.heap.size)
theorem Upd.grow {F : Nat → Prop} {w w' : World} (h : Mod F w w') : Upd F (grow F w w') w w' := ⟨h, fun _ h => h⟩
theorem Sl.one' {w : World} {v : Value} {xs : List Value} (h : Sl w v xs) : v.oneCell' = true := by
  obtain ⟨A, c, rfl, _⟩ := h; rfl
theorem Addr.add_zero' (a : Addr) : a.add 0 = a := by simp [Addr.add]
theorem oneCell_cells {u : Value} (h : u.oneCell' = true) : u.cells = #[u] := by cases u <;> simp [Value.oneCell', Value.cells] at h ⊢

section
variable {P : Program} {o : Oper} {F : Nat → Prop} {w : World} {v : Value} {xs : List Value} {t e : TypeId} {z : Value} {bytes : Nat}
theorem runs_rto {ρ : Operand → Value} (E : El P t e z bytes) (x y : Operand) (j : Nat) (ho : o.op = .slice t x none (some y) none) (hv : ρ x = v) (hy : ρ y = .int .i64 j) (h : Row F w e v xs) (hj : j ≤ xs.length) :
    ∃ v', Runs P o ρ w v' ∧ Row F w e v' (xs.take j) ∧ v'.ownBlock = v.ownBlock := by
  obtain ⟨A, c, rfl, h1, h2, h3⟩ := h.sl
  obtain ⟨i0, hi0, _, hsz, _⟩ := E.info
  have hu := E.hu
  have b1 : (Instr.sliceBound (.int .i64 (j : Int)) c .sliceAcap).run P w = .ok j w := by
    have : j ≤ c := by omega
    simp [Instr.sliceBound, go_sem]; omega
  have ho' := own_take h.own rfl hj
  refine ⟨.slice A j c, ?_, ⟨ho', fun k hk => h.inF k (by cases A <;> exact hk)⟩, by cases A <;> rfl⟩
  unfold Runs execOp
  have hA : (A.map fun x : Addr => x.add 0) = A := by cases A <;> simp [Addr.add_zero']
  simp [ho, hv, hy, Instr.sliceAt, Instr.slice, run_underlying hu, Instr.sliceBounds, sizeOf, typeInfo, hi0, b1, Addr.add_zero']

theorem run_app (E : El P t e z bytes) (ty : TypeId) {s : Value} {ys : List Value} (h : Row F w e v xs) (hs : Sl w s ys) (h1 : ∀ u ∈ ys, u.oneCell' = true) (hb : (xs.length + ys.length) * bytes ≤ 140737488355328) :
    ∃ v' w', (Builtin.append_ #[t, t] ty #[v, s]).run P w = .ok v' w' ∧ Mod F w w' ∧ Row (grow F w w') w' e v' (xs ++ ys) ∧ (v'.ownBlock = v.ownBlock ∨ ∀ k, v'.ownBlock = some k → w.heap.size ≤ k) := by
  obtain ⟨i0, hi, hz, hsz, hby⟩ := E.info
  obtain ⟨v', w', h2, h3, h4, h5⟩ := run_append_sl (P := P) w 0 t ty e i0 z bytes E.hu hi hz hsz hby E.one h.own hs h1 hb E.pos (Nat.zero_le _)
  have hm : Mod F w w' := (Mod.grown h4).mono fun i _ hi => h.inF i hi
  refine ⟨v', w', h2, hm, ⟨h3, fun k hk => ?_⟩, h5.imp id fun he k hk => by rw [he] at hk; cases hk; exact Nat.le_refl _⟩
  have hlt := (h3.lt k hk).2
  rcases h5 with h5 | h5
  · exact .inl (h.inF k (by rw [← h5]; exact hk))
  · rw [h5] at hk; cases hk; exact .inr ⟨Nat.le_refl _, hlt⟩
end

theorem Below.toMod {B : Nat} {w w' : World} (h : Below B w w') : Mod (fun k => B ≤ k) w w' := ⟨h.os, h.tape, h.output, h.size, fun k _ hn => h.block k (by omega)⟩
theorem Fs.below {B g : Nat} {w w' : World} {cs : List Value} (h : Fs w g cs) (hb : Below B w w') (hg : g < B) : Fs w' g cs := h.mod (Below.toMod hb) (by omega)
theorem own_mod_lt {B g : Nat} {w w' : World} {e : TypeId} {v : Value} {xs : List Value} (h : w.ownsRow B e 1 v xs.length xs) (hm : Mod (fun k => k = g) w w') (hg : g < B) : w'.ownsRow B e 1 v xs.length xs :=
  own_mod h hm fun k hk e => by have := (h.lt k hk).1; omega

section
variable {P : Program} {ops : Array Oper} {rest : List Oper} {o : Oper} {a : Act} {Q : Exit → Act → World → Prop} {F : Nat → Prop} {w : World} {v : Value} {xs : List Value} {t e : TypeId} {z : Value} {bytes : Nat}
/-- v[:j] of what is owned -/
theorem w_rto (E : El P t e z bytes) (x y : Operand) (j : Nat) (hgd : o.guard = none) (ho : o.op = .slice t x none (some y) none) (hv : a.eval x = v) (hy : a.eval y = .int .i64 j) (h : Row F w e v xs) (hj : j ≤ xs.length)
    (k : ∀ v', Row F w e v' (xs.take j) → v'.ownBlock = v.ownBlock → wpList P ops Q rest (a.put o.dst v') w) : wpList P ops Q (o :: rest) a w := by
  obtain ⟨v', h1, h2, h3⟩ := runs_rto E x y j ho hv hy h hj
  exact wpList_runs hgd h1 (k v' h2 h3)
/-- append(v, s...), v owned -/
theorem w_rapp (E : El P t e z bytes) (x y : Operand) {s : Value} {ys : List Value} (hgd : o.guard = none) (ho : o.op = .call { callee := .builtin .append, args := #[x, y], argTypes := #[t, t] }) (hv : a.eval x = v) (hy : a.eval y = s)
    (h : Row F w e v xs) (hs : Sl w s ys) (h1 : ∀ u ∈ ys, u.oneCell' = true) (hb : (xs.length + ys.length) * bytes ≤ 140737488355328)
    (k : ∀ v' w', Mod F w w' → Row (grow F w w') w' e v' (xs ++ ys) → (v'.ownBlock = v.ownBlock ∨ ∀ k, v'.ownBlock = some k → w.heap.size ≤ k) → wpList P ops Q rest (a.put o.dst v') w') : wpList P ops Q (o :: rest) a w := by
  refine wpList_plain hgd fun K hK => ?_
  obtain ⟨v', w', hr, h2, h3, h4⟩ := run_app E o.type h hs h1 hb
  unfold Oper.wp execOp
  simp only [ho, resolve, invoke, builtin, Sem.run_bind, Sem.run_pure, Result.andThen_ok, List.map_toArray, List.map_cons, List.map_nil, hv, hy, hr]
  exact hK _ _ (k v' w' h2 h3 h4)
theorem made_list (z : Value) (hz : z.cells = #[z]) (n : Nat) : (madeCells z.cells n).toList = List.replicate n z := by
  apply List.ext_getElem (by simp [size_madeCells])
  intro i h1 h2
  simp [madeCells, hz, Nat.mod_one]
theorem nblk_alloc' (w : World) (o : Obj) : (w.alloc o).heap.size = w.heap.size + 1 := by simp
/-- make([]T, n) -/
theorem w_make (E : El P t e z bytes) (x y : Operand) (n : Nat) (hgd : o.guard = none) (ho : o.op = .makeSlice t x y) (hx : a.eval x = .int .i64 n) (hy : a.eval y = .int .i64 n) (hz : z.cells = #[z]) (hb : bytes * n ≤ 281474976710656) (hn : n ≤ maxLen)
    (k : ∀ v' w', Ext w w' → Row (fun k => w.heap.size ≤ k ∧ k < w'.heap.size) w' e v' (List.replicate n z) → wpList P ops Q rest (a.put o.dst v') w') : wpList P ops Q (o :: rest) a w := by
  obtain ⟨i0, hi, hz0, hsz, hby⟩ := E.info
  have hn' : (n : Int) ≤ 9223372036854775807 := by unfold maxLen at hn; omega
  have hb' : (i0.bytes : Int) * (n : Int) ≤ 281474976710656 := by
    have h : ((bytes * n : Nat) : Int) ≤ 281474976710656 := by omega
    rw [hby]; rwa [Int.natCast_mul] at h
  have hr := run_make (P := P) w t e i0 z E.hu hi hz0 .i64 .i64 n n (by omega) (by omega) hb' hn'
  simp only [Int.toNat_natCast, hsz, Nat.mul_one] at hr
  have hl := made_list z hz n
  have hsz2 := size_madeCells z.cells n
  have hrow : Row (fun k => w.heap.size ≤ k ∧ k < (w.alloc (.cells (madeCells z.cells n) e)).heap.size) (w.alloc (.cells (madeCells z.cells n) e)) e (.slice (some ⟨w.heap.size, 0, none⟩) n n) (List.replicate n z) := by
    refine ⟨⟨(Nat.mul_one _).symm, .inr ⟨w.heap.size, n, madeCells z.cells n, by rw [List.length_replicate], Nat.zero_le _, heap_alloc_new w _, by rw [List.length_replicate]; exact Nat.le_refl _, hn, by rw [hsz2, Nat.mul_one], ?_⟩⟩, fun j hj => ?_⟩
    · rw [hl, List.length_replicate, Nat.mul_one, List.take_of_length_le (by rw [List.length_replicate]; exact Nat.le_refl _)]
    · cases hj; exact ⟨Nat.le_refl _, by show w.heap.size < _; rw [nblk_alloc']; omega⟩
  have hk0 := k _ _ ((Ext.refl w).alloc (.cells (madeCells z.cells n) e)) hrow
  refine wpList_plain hgd fun K hK => ?_
  have hk := hK _ _ hk0
  unfold Oper.wp execOp
  simp only [ho, hx, hy, Sem.run_bind, hr, Result.andThen_ok]
  exact hk
/-- copy(v, s), as much as there is room for -/
theorem w_copy (E : El P t e z bytes) (x y : Operand) {s : Value} {ys : List Value} {ty' : TypeId} (hgd : o.guard = none) (ho : o.op = .call { callee := .builtin .copy, args := #[x, y], argTypes := #[t, ty'] }) (hv : a.eval x = v) (hy : a.eval y = s)
    (h : Row F w e v xs) (hs : Sl w s ys) (hl : ys.length = xs.length) (h1 : ∀ u ∈ ys, u.oneCell' = true)
    (k : ∀ w', Mod F w w' → Row F w' e v ys → wpList P ops Q rest (a.put o.dst (.int .i64 ys.length)) w') : wpList P ops Q (o :: rest) a w := by
  obtain ⟨i0, hi, hz0, hsz, hby⟩ := E.info
  have hsz' : (P.info? e).map (·.size) = some 1 := by simp [hi, hsz]
  obtain ⟨A, c, rfl, hc1, hc2, hc⟩ := hs
  obtain ⟨hown, hin⟩ := h
  have hown' := hown
  obtain ⟨hxl, hn | ⟨g, cap, cur, hv', hb, hg, h2, h3, h4, h5⟩⟩ := hown
  · obtain ⟨rfl, h0⟩ := hn
    have hx0 : xs = [] := List.eq_nil_of_length_eq_zero h0
    have hy0 : ys = [] := List.eq_nil_of_length_eq_zero (by omega)
    subst hx0 hy0
    exact wpList_copy_nothing hgd x y t ty' ho e E.hu hsz' none A 0 0 0 c hv hy rfl (k w (Mod.refl F w) ⟨hown', hin⟩)
  · by_cases h0 : ys.length = 0
    · have hy0 : ys = [] := List.eq_nil_of_length_eq_zero h0
      have hx0 : xs = [] := List.eq_nil_of_length_eq_zero (by omega)
      subst hx0 hy0
      exact wpList_copy_nothing hgd x y t ty' ho e E.hu hsz' (some ⟨g, 0, none⟩) A 0 cap 0 c (by rw [hv, hv']; rfl) hy rfl (k w (Mod.refl F w) ⟨hown', hin⟩)
    · obtain ⟨ad, rfl, hcells⟩ : ∃ ad, A = some ad ∧ ∀ j u, ys[j]? = some u → w.cell? (ad.add j) = some u := by
        obtain ⟨ad, hA, _⟩ := hc 0 ys[0] (List.getElem?_eq_getElem (by omega))
        exact ⟨ad, hA, fun j u hj => by obtain ⟨ad', hA', hh⟩ := hc j u hj; rw [hA] at hA'; cases hA'; exact hh⟩
      have hgl := (Array.getElem?_eq_some_iff.1 hg).1
      refine wpList_copy_own hgd x y t ty' ho e E.hu hsz' g 0 xs.length cap ad ys.length c (by rw [hv, hv']) hy cur e hg ys (by simp [hl]) hcells (by omega) h1 (k _ ?_ ?_)
      · exact ⟨rfl, rfl, rfl, by simp [World.setRow], fun j hj hn => by
          simp only [World.setRow, Array.getElem?_modify]
          rw [if_neg (by rintro rfl; exact hn (hin _ (by rw [hv']; rfl)))]⟩
      · refine ⟨⟨by simp, .inr ⟨g, cap, _, by rw [hl]; exact hv', Nat.zero_le _, setRow_heap w g cur _ e (0, 0) hg, by omega, h3, ?_, ?_⟩⟩, hin⟩
        · simp; omega
        · simp
/-- v[i] = u, v owned: the store (the index: w_oidx). -/
theorem w_rstore (E : El P t e z bytes) (x y : Operand) {u : Value} {g i : Nat} (hgd : o.guard = none) (ho : o.op = .store e x y) (hd : o.dst = none) (hx : a.eval x = .pointer (some ⟨g, i, none⟩)) (hy : a.eval y = u) (h1 : u.oneCell' = true)
    (h : Row F w e v xs) (hg : v.ownBlock = some g) (hi : i < xs.length)
    (k : ∀ w', Mod F w w' → Row F w' e v (xs.set i u) → wpList P ops Q rest a w') : wpList P ops Q (o :: rest) a w := by
  obtain ⟨g', cap, hv', hb, hgs, hc, hf, hset⟩ := own_at h.own hi
  obtain rfl : g' = g := by rw [hv'] at hg; simpa [Value.ownBlock] using hg
  obtain ⟨i0, hi0, _, hsz, _⟩ := E.info
  refine wpList_plain hgd fun K hK => ?_
  have hr := run_store_one (P := P) hi0 hsz (oneCell_cells h1) h1 hc hf
  have hk := hK _ _ (k _ ((Mod.setCell w ⟨g', i, none⟩ u).mono fun j _ hj => by subst hj; exact h.inF _ hg) ⟨hset u, h.inF⟩)
  unfold Oper.wp execOp
  simp only [ho, hx, hy, Sem.run_bind, hr, Result.andThen_ok, Sem.run_pure, Oper.upon, hd, Act.put]
  exact hk
end
end Go.Proofs.Ytgbhbifdfcfamaa
namespace Go.Proofs.Ytgbhbifdfcfamaa
set_option maxRecDepth 100000
open Go.RowKit

/-- From p on there lie the cells cs. -/
def RowAt (w : World) (p : Addr) (cs : List Value) : Prop := ∀ (j : Nat) (u : Value), cs[j]? = some u → w.cell? (p.add j) = some u
theorem RowAt.ext {w w' : World} {p : Addr} {cs : List Value} (h : RowAt w p cs) (he : Ext w w') : RowAt w' p cs := fun j u hj => he.cell (h j u hj)
theorem RowAt.mod {F : Nat → Prop} {w w' : World} {p : Addr} {cs : List Value} (h : RowAt w p cs) (hm : Mod F w w') (hn : ¬ F p.block) : RowAt w' p cs := fun j u hj => by
  have hc := h j u hj
  have hb : (p.add j).block = p.block := blk_add p j
  rw [World.cell?_of_block (w := w) (hm.block _ (World.block_lt_of_cell? w _ hc) (by rw [hb]; exact hn))]; exact hc
/-- v is a slice of records of n cells: these. -/
def SlS (w : World) (v : Value) (n : Nat) (rows : List (List Value)) : Prop :=
  ∃ (A : Option Addr) (c : Nat), v = .slice A rows.length c ∧ rows.length ≤ c ∧ c ≤ maxLen ∧ ∀ (k : Nat) (row : List Value), rows[k]? = some row → row.length = n ∧ ∃ ad : Addr, A = some ad ∧ RowAt w (ad.add (k * n)) row
theorem SlS.ext {w w' : World} {v : Value} {n : Nat} {rows : List (List Value)} (h : SlS w v n rows) (he : Ext w w') : SlS w' v n rows := by
  obtain ⟨A, c, h1, h2, h3, h4⟩ := h
  exact ⟨A, c, h1, h2, h3, fun k row hk => by obtain ⟨h5, ad, h6, h7⟩ := h4 k row hk; exact ⟨h5, ad, h6, h7.ext he⟩⟩

/-- v is a slice of records of n cells, which read as l. -/
def Recs {α : Type} (n : Nat) (R : World → List Value → α → Prop) (w : World) (v : Value) (l : List α) : Prop :=
  ∃ rows : List (List Value), SlS w v n rows ∧ rows.length = l.length ∧ ∀ (k : Nat) (row : List Value) (d : α), rows[k]? = some row → l[k]? = some d → R w row d
/-- What a record reads as stays, whatever is added. -/
def Stays {α : Type} (R : World → List Value → α → Prop) : Prop := ∀ w w' row d, R w row d → Ext w w' → R w' row d
theorem Recs.ext {α : Type} {n : Nat} {R : World → List Value → α → Prop} (hR : Stays R) {w w' : World} {v : Value} {l : List α} (h : Recs n R w v l) (he : Ext w w') : Recs n R w' v l := by
  obtain ⟨rows, h1, h2, h3⟩ := h
  exact ⟨rows, h1.ext he, h2, fun k row d hk hd => hR _ _ _ _ (h3 k row d hk hd) he⟩
theorem Recs.len_le {α : Type} {n : Nat} {R : World → List Value → α → Prop} {w : World} {v : Value} {l : List α} (h : Recs n R w v l) : l.length ≤ maxLen := by
  obtain ⟨rows, ⟨A, c, _, h1, h2, _⟩, h3, _⟩ := h; omega

section
variable {P : Program} {ops : Array Oper} {rest : List Oper} {o : Oper} {a : Act} {Q : Exit → Act → World → Prop} {w : World} {v : Value} {t e : TypeId} {α : Type} {n : Nat} {R : World → List Value → α → Prop} {l : List α}
/-- A slice type of elements of n cells. -/
structure ElS (P : Program) (t e : TypeId) (n : Nat) : Prop where
  hu : P.underlying t = some (.slice e)
  info : ∃ i : TypeInfo, P.info? e = some i ∧ i.size = n
theorem ElS.of (hu : P.underlying t = some (.slice e)) (h : (P.info? e).map (·.size) = some n) : ElS P t e n := by
  refine ⟨hu, ?_⟩
  cases hq : P.info? e with
  | none => rw [hq] at h; simp at h
  | some i => exact ⟨i, rfl, by simpa [hq] using h⟩
theorem runs_rlen {ρ : Operand → Value} (E : ElS P t e n) (x : Operand) (ho : o.op = .call { callee := .builtin .len, args := #[x], argTypes := #[t] }) (hv : ρ x = v) (h : Recs n R w v l) : Runs P o ρ w (.int .i64 l.length) := by
  obtain ⟨rows, ⟨A, c, rfl, _⟩, hl, _⟩ := h
  have hu := E.hu
  rw [← hl]
  unfold Runs execOp
  simp [ho, resolve, invoke, builtin, hv, run_len_slice, go_sem, hu]
theorem runs_ridx {ρ : Operand → Value} (E : ElS P t e n) (x y : Operand) (i : Nat) (ho : o.op = .indexAddr t x y) (hv : ρ x = v) (hy : ρ y = .int .i64 i) (h : Recs n R w v l) (hi : i < l.length) :
    ∃ p row, Runs P o ρ w (.pointer (some p)) ∧ RowAt w p row ∧ row.length = n ∧ R w row l[i] := by
  obtain ⟨rows, ⟨A, c, rfl, h1, h2, h3⟩, hl, h4⟩ := h
  obtain ⟨i0, hi0, hsz⟩ := E.info
  have hu := E.hu
  have hir : i < rows.length := by omega
  obtain ⟨h5, ad, rfl, h6⟩ := h3 i _ (List.getElem?_eq_getElem hir)
  refine ⟨_, _, ?_, h6, h5, h4 i _ _ (List.getElem?_eq_getElem hir) (List.getElem?_eq_getElem hi)⟩
  unfold Runs execOp
  simp [ho, hv, hy, Instr.indexAt, run_underlying hu, sizeOf, typeInfo, hi0, hsz, go_sem, hir]
theorem runs_pload {ρ : Operand → Value} {zs : List Value} (E : St P t n zs) (x : Operand) {p : Addr} {cs : List Value} (ho : o.op = .load t x) (hx : ρ x = .pointer (some p)) (h : RowAt w p cs) (hl : cs.length = n) : Runs P o ρ w (.agg cs.toArray) := by
  obtain ⟨fs, hu, _, _⟩ := E.u
  obtain ⟨i0, hi, _, hs⟩ := E.info
  have hc := run_loadCells_list (P := P) w p cs h
  rw [hl] at hc
  unfold Runs execOp
  simp [ho, hx, Instr.loadAt, Instr.sureAddr, loadVar, isAgg, run_underlying hu, sizeOf, typeInfo, hi, hs, hc]
theorem w_rlen (E : ElS P t e n) (x : Operand) (hgd : o.guard = none) (ho : o.op = .call { callee := .builtin .len, args := #[x], argTypes := #[t] }) (hv : a.eval x = v) (h : Recs n R w v l)
    (k : wpList P ops Q rest (a.put o.dst (.int .i64 l.length)) w) : wpList P ops Q (o :: rest) a w := wpList_runs hgd (runs_rlen E x ho hv h) k
theorem w_ridx (E : ElS P t e n) (x y : Operand) (i : Nat) (hgd : o.guard = none) (ho : o.op = .indexAddr t x y) (hv : a.eval x = v) (hy : a.eval y = .int .i64 i) (h : Recs n R w v l) (hi : i < l.length)
    (k : ∀ p row, RowAt w p row → row.length = n → R w row l[i] → wpList P ops Q rest (a.put o.dst (.pointer (some p))) w) : wpList P ops Q (o :: rest) a w := by
  obtain ⟨p, row, h1, h2, h3, h4⟩ := runs_ridx E x y i ho hv hy h hi
  exact wpList_runs hgd h1 (k p row h2 h3 h4)
/-- &v[i], v from outside: the record as it was at W0. -/
theorem w_ridx0 (E : ElS P t e n) (x y : Operand) (i : Nat) {W0 : World} (hR : Stays R) (hgd : o.guard = none) (ho : o.op = .indexAddr t x y) (hv : a.eval x = v) (hy : a.eval y = .int .i64 i) (h : Recs n R W0 v l) (he : Ext W0 w) (hi : i < l.length)
    (k : ∀ p row, RowAt W0 p row → row.length = n → R W0 row l[i] → wpList P ops Q rest (a.put o.dst (.pointer (some p))) w) : wpList P ops Q (o :: rest) a w := by
  have h' := h.ext hR he
  obtain ⟨rows, ⟨A, c, rfl, h1, h2, h3⟩, hl, h4⟩ := h
  obtain ⟨i0, hi0, hsz⟩ := E.info
  have hu := E.hu
  have hir : i < rows.length := by omega
  obtain ⟨h5, ad, rfl, h6⟩ := h3 i _ (List.getElem?_eq_getElem hir)
  refine wpList_runs hgd ?_ (k _ _ h6 h5 (h4 i _ _ (List.getElem?_eq_getElem hir) (List.getElem?_eq_getElem hi)))
  have key : ∀ (ρ : Operand → Value), ρ x = .slice (some ad) rows.length c → ρ y = .int .i64 i → Runs P o ρ w (.pointer (some (ad.add (i * n)))) := fun ρ hv hy => by
    unfold Runs execOp
    simp [ho, hv, hy, Instr.indexAt, run_underlying hu, sizeOf, typeInfo, hi0, hsz, go_sem, hir]
  exact key _ hv hy
theorem w_pload {zs : List Value} (E : St P t n zs) (x : Operand) {p : Addr} {cs : List Value} (hgd : o.guard = none) (ho : o.op = .load t x) (hx : a.eval x = .pointer (some p)) (h : RowAt w p cs) (hl : cs.length = n)
    (k : wpList P ops Q rest (a.put o.dst (.agg cs.toArray)) w) : wpList P ops Q (o :: rest) a w := wpList_runs hgd (runs_pload E x ho hx h hl) k
theorem runs_cload {ρ : Operand → Value} {ty : TypeId} (x : Operand) {p : Addr} {u : Value} (ho : o.op = .load ty x) (hx : ρ x = .pointer (some p)) (h : RowAt w p [u]) (ha : (isAgg ty).run P w = .ok false w) : Runs P o ρ w u := by
  have hc := h 0 u rfl
  rw [Addr.add_zero'] at hc
  unfold Runs execOp
  simp [ho, hx, go_sem, ha, hc]
/-- A cell, at an address from outside. -/
theorem w_cload {ty : TypeId} (x : Operand) {p : Addr} {u : Value} (hgd : o.guard = none) (ho : o.op = .load ty x) (hx : a.eval x = .pointer (some p)) (h : RowAt w p [u]) (ha : ∀ w, (isAgg ty).run P w = .ok false w)
    (k : wpList P ops Q rest (a.put o.dst u) w) : wpList P ops Q (o :: rest) a w := wpList_runs hgd (runs_cload x ho hx h (ha w)) k
end
/-- A record that is one slice of bytes. -/
def BytR (w : World) (row : List Value) (d : List Nat) : Prop := ∃ u, row = [u] ∧ Byt w u d
theorem BytR.stays : Stays BytR := fun _ _ _ _ ⟨u, h1, h2⟩ he => ⟨u, h1, h2.ext he⟩
end Go.Proofs.Ytgbhbifdfcfamaa
namespace Go.Proofs.Ytgbhbifdfcfamaa
set_option maxRecDepth 100000
open Go.RowKit

/-- A slice type of elements of n cells, as append wants it. -/
structure ElN (P : Program) (t e : TypeId) (n bytes : Nat) (z : Value) : Prop where
  hu : P.underlying t = some (.slice e)
  info : ∃ i : TypeInfo, P.info? e = some i ∧ i.zero = some z ∧ i.size = n ∧ i.bytes = bytes
  zs : z.cells.size = n
  pos : 0 < n
  bpos : 0 < bytes
theorem ElN.of {P : Program} {t e : TypeId} {n bytes : Nat} {z : Value} (hu : P.underlying t = some (.slice e)) (h : (P.info? e).map (fun i => (i.zero, i.size, i.bytes)) = some (some z, n, bytes)) (zs : z.cells.size = n) (pos : 0 < n) (bpos : 0 < bytes) : ElN P t e n bytes z := by
  obtain ⟨i0, hi, h1, h2, h3⟩ := info_parts h
  exact ⟨hu, ⟨i0, hi, h1, h2, h3⟩, zs, pos, bpos⟩
theorem ElN.elS {P : Program} {t e : TypeId} {n bytes : Nat} {z : Value} (E : ElN P t e n bytes z) : ElS P t e n := by
  obtain ⟨i, h1, _, h3, _⟩ := E.info
  exact ⟨E.hu, ⟨i, h1, h3⟩⟩

/-- The call owns the row v of records of n cells, all of whose blocks are in F. -/
structure RowN (F : Nat → Prop) (w : World) (e : TypeId) (n : Nat) (v : Value) (rows : List (List Value)) : Prop where
  own : w.ownsRow 0 e n v rows.length rows.flatten
  each : ∀ row ∈ rows, row.length = n
  inF : ∀ k, v.ownBlock = some k → F k
theorem flat_len {n : Nat} : ∀ {rows : List (List Value)}, (∀ row ∈ rows, row.length = n) → rows.flatten.length = rows.length * n
  | [], _ => by simp
  | r :: rs, h => by
    rw [List.flatten_cons, List.length_append, h r (List.mem_cons_self ..), flat_len fun x hx => h x (List.mem_cons_of_mem _ hx), List.length_cons, Nat.add_mul]; omega
theorem flat_get {n : Nat} : ∀ {rows : List (List Value)}, (∀ row ∈ rows, row.length = n) → ∀ (k j : Nat) (row : List Value) (u : Value), rows[k]? = some row → row[j]? = some u → rows.flatten[k * n + j]? = some u
  | [], _, k, j, row, u, h, _ => by simp at h
  | r :: rs, h, 0, j, row, u, hk, hj => by
    obtain rfl : r = row := by simpa using hk
    rw [List.flatten_cons, Nat.zero_mul, Nat.zero_add, List.getElem?_append_left (List.getElem?_eq_some_iff.1 hj).1]; exact hj
  | r :: rs, h, k + 1, j, row, u, hk, hj => by
    have hr := h r (List.mem_cons_self ..)
    rw [List.flatten_cons, List.getElem?_append_right (by rw [hr, Nat.add_mul]; omega), hr, show (k + 1) * n + j - n = k * n + j from by rw [Nat.add_mul]; omega]
    exact flat_get (fun x hx => h x (List.mem_cons_of_mem _ hx)) k j row u (by simpa using hk) hj
section
variable {F G : Nat → Prop} {w w' : World} {e : TypeId} {n : Nat} {v : Value} {rows : List (List Value)}
theorem RowN.mono (h : RowN F w e n v rows) (hs : ∀ k, F k → G k) : RowN G w e n v rows := ⟨h.own, h.each, fun k hk => hs k (h.inF k hk)⟩
theorem RowN.nil (w : World) (e : TypeId) (n : Nat) : RowN F w e n (.slice none 0 0) [] := ⟨World.ownsRow_nil w 0 e n, fun _ h => by simp at h, fun k hk => by cases hk⟩
theorem RowN.lt (h : RowN F w e n v rows) {k : Nat} (hk : v.ownBlock = some k) : k < w.heap.size := (h.own.lt k hk).2
theorem RowN.mod (h : RowN F w e n v rows) (hm : Mod G w w') (hd : ∀ k, F k → ¬ G k) : RowN F w' e n v rows := by
  obtain ⟨⟨hl, ho⟩, h2, h3⟩ := h
  refine ⟨⟨hl, ?_⟩, h2, h3⟩
  rcases ho with hn | ⟨g, cap, cur, hv, hg, hh, rest⟩
  · exact .inl hn
  · refine .inr ⟨g, cap, cur, hv, hg, ?_, rest⟩
    rw [hm.block g (Array.getElem?_eq_some_iff.1 hh).1 (hd g (h3 g (by rw [hv]; rfl)))]; exact hh
theorem RowN.ext (h : RowN F w e n v rows) (he : Ext w w') : RowN F w' e n v rows := by
  obtain ⟨⟨hl, ho⟩, h2, h3⟩ := h
  refine ⟨⟨hl, ?_⟩, h2, h3⟩
  rcases ho with hn | ⟨g, cap, cur, hv, hg, hh, rest⟩
  · exact .inl hn
  · exact .inr ⟨g, cap, cur, hv, hg, by rw [he.block g (Array.getElem?_eq_some_iff.1 hh).1]; exact hh, rest⟩
theorem RowN.slS (h : RowN F w e n v rows) : SlS w v n rows := by
  obtain ⟨ho, h2, _⟩ := h
  have ho' := ho
  obtain ⟨hl, hn | ⟨g, cap, cur, hv, hb, hg, h3, h4, h5, h6⟩⟩ := ho
  · obtain ⟨rfl, h0⟩ := hn
    have : rows = [] := List.eq_nil_of_length_eq_zero h0
    subst this
    exact ⟨none, 0, rfl, by simp, by simp [maxLen], fun k row hk => by simp at hk⟩
  · refine ⟨some ⟨g, 0, none⟩, cap, hv, h3, h4, fun k row hk => ⟨h2 row (List.mem_of_getElem? hk), _, rfl, fun j u hj => ?_⟩⟩
    rw [add_add']
    exact ho'.cells (g := g) (by rw [hv]; rfl) (k * n + j) u (flat_get h2 k j row u hk hj)
/-- What is read of it. -/
theorem RowN.recs {α : Type} {R : World → List Value → α → Prop} {l : List α} (h : RowN F w e n v rows) (hl : rows.length = l.length) (hR : ∀ (k : Nat) (row : List Value) (d : α), rows[k]? = some row → l[k]? = some d → R w row d) : Recs n R w v l := ⟨rows, h.slS, hl, hR⟩
end

theorem foldl_seg : ∀ (us : List Value) (off j0 : Nat) (cells : Array Value), off + j0 + us.length ≤ cells.size →
    ((us.zipIdx j0).foldl (fun (cs : Array Value) (p : Value × Nat) => cs.setIfInBounds (off + p.2) p.1) cells) = (cells.toList.take (off + j0) ++ us ++ cells.toList.drop (off + j0 + us.length)).toArray
  | [], off, j0, cells, h => by simp
  | u :: us, off, j0, cells, h => by
    simp only [List.length_cons] at h
    rw [List.zipIdx_cons, List.foldl_cons, foldl_seg us off (j0 + 1) _ (by simp; omega)]
    congr 1
    have h1 : (cells.setIfInBounds (off + j0) u).toList = cells.toList.set (off + j0) u := by simp
    rw [h1, List.length_cons]
    have e1 : (cells.toList.set (off + j0) u).take (off + (j0 + 1)) = cells.toList.take (off + j0) ++ [u] := by
      rw [show off + (j0 + 1) = (off + j0) + 1 from by omega, List.take_set, List.take_succ_eq_append_getElem (by simp; omega), List.set_append_right _ _ (by simp; omega)]
      have : off + j0 - min (off + j0) cells.size = 0 := by omega
      simp [this]
    have e2 : (cells.toList.set (off + j0) u).drop (off + (j0 + 1) + us.length) = cells.toList.drop (off + j0 + (us.length + 1)) := by
      rw [List.drop_set, if_pos (by omega), show off + (j0 + 1) + us.length = off + j0 + (us.length + 1) from by omega]
    rw [e1, e2]; simp
theorem fill_rows {n : Nat} : ∀ (rows : List (List Value)) (k : Nat) (cells : Array Value), (∀ row ∈ rows, row.length = n) → (k + rows.length) * n = cells.size →
    Instr.fill (fun i => some (i * n, n)) cells ((rows.zipIdx k).map fun p => (p.2, .agg p.1.toArray)) = some (cells.toList.take (k * n) ++ rows.flatten).toArray
  | [], k, cells, _, h => by
    have : cells.toList.length ≤ k * n := by simp at h ⊢; omega
    simp [Instr.fill, List.take_of_length_le this]
  | r :: rs, k, cells, h1, h => by
    have hr := h1 r (List.mem_cons_self ..)
    have hmul : (k + (rs.length + 1)) * n = k * n + n + rs.length * n := by rw [Nat.add_mul, Nat.add_mul]; omega
    simp only [List.length_cons] at h
    have hsz : k * n + r.length ≤ cells.size := by omega
    simp only [List.zipIdx_cons, List.map_cons, Instr.fill]
    rw [if_neg (by simp [Value.cells]; omega)]
    have hz : (r.toArray.zipIdx.foldl (fun (cs : Array Value) (x : Value × Nat) => cs.setIfInBounds (k * n + x.2) x.1) cells) = (cells.toList.take (k * n) ++ r ++ cells.toList.drop (k * n + r.length)).toArray := by
      have := foldl_seg r (k * n) 0 cells (by omega)
      simp only [Nat.add_zero] at this
      rw [← this]
      simp [Array.zipIdx, List.mapIdx_eq_zipIdx_map]
    have hz' : ((Value.agg r.toArray).cells.zipIdx.foldl (fun (cs : Array Value) (x : Value × Nat) => match x with | (c, j) => cs.setIfInBounds (k * n + j) c) cells) = (cells.toList.take (k * n) ++ r ++ cells.toList.drop (k * n + r.length)).toArray := hz
    rw [hz', fill_rows rs (k + 1) _ (fun x hx => h1 x (List.mem_cons_of_mem _ hx)) (by
      simp only [List.size_toArray, List.length_append, List.length_take, List.length_drop, Array.length_toList]
      rw [show k + 1 + rs.length = k + (rs.length + 1) from by omega]
      omega)]
    congr 2
    have ht : (cells.toList.take (k * n) ++ r ++ cells.toList.drop (k * n + r.length)).take ((k + 1) * n) = cells.toList.take (k * n) ++ r := by
      have hlen : (cells.toList.take (k * n) ++ r).length = (k + 1) * n := by simp [Nat.add_mul]; omega
      rw [← hlen, List.take_left]
    rw [ht, List.flatten_cons, List.append_assoc]

section
variable {P : Program} {ops : Array Oper} {rest : List Oper} {o : Oper} {a : Act} {Q : Exit → Act → World → Prop} {F : Nat → Prop} {w : World} {v : Value} {rows : List (List Value)} {t e : TypeId} {n bytes : Nat} {z : Value}
theorem run_nbuild (E : ElN P t e n bytes z) (rows : List (List Value)) (arr : Array (Nat × Value)) (harr : arr.toList = (rows.zipIdx 0).map fun p => (p.2, .agg p.1.toArray)) (hone : ∀ r ∈ rows, r.length = n) (m : Nat) (hn : m = rows.length) (hs : m * n ≤ 1000000) (w : World) :
    (Instr.buildSlice t m arr).run P w = .ok (.slice (some ⟨w.heap.size, 0, none⟩) m m) (w.alloc (.cells rows.flatten.toArray e)) := by
  subst hn
  obtain ⟨i0, hi0, hz, hsz, _⟩ := E.info
  have hu := E.hu
  have hf := fun (zs : Array Value) (hzs : rows.length * n = zs.size) => fill_rows rows 0 zs hone (by simpa using hzs)
  simp only [Nat.zero_mul, List.take_zero, List.nil_append] at hf
  unfold Instr.buildSlice
  by_cases h0 : rows.length * n = 0
  · have hb : ¬ 2 ^ 24 < rows.length * n := by omega
    simp only [Sem.run_bind, run_underlying hu, Result.andThen_ok, sizeOf, typeInfo]
    simp [hi0, hsz, h0]
    rw [harr, hf _ (by simp [h0])]
    simp [newRow]
  · have hb : ¬ 16777216 < rows.length * n := by omega
    simp [run_underlying hu, sizeOf, typeInfo, hi0, hsz, h0, hb, zeroValue, hz]
    rw [harr, hf _ (by simp)]
    simp [newRow]
/-- Records written out: the world and the slice under new names. -/
theorem w_nnew (E : ElN P t e n bytes z) {m : Nat} {ps : Array (Nat × Operand)} (rows : List (List Value)) (hgd : o.guard = none) (ho : o.op = .buildSlice t m ps) (hps : (ps.toList.map fun x => (x.1, a.eval x.2)) = (rows.zipIdx 0).map fun p => (p.2, .agg p.1.toArray))
    (hone : ∀ r ∈ rows, r.length = n) (hn : m = rows.length) (hs : m * n ≤ 1000000)
    (k : ∀ v' w' B, w.heap.size ≤ B → B ≤ w'.heap.size → Ext w w' → RowN (fun k => B ≤ k ∧ k < w'.heap.size) w' e n v' rows → wpList P ops Q rest (a.put o.dst v') w') : wpList P ops Q (o :: rest) a w := by
  refine wpList_plain hgd fun K hK => ?_
  have hr := run_nbuild (P := P) E rows (ps.map fun x => (x.1, a.eval x.2)) (by rw [Array.toList_map]; exact hps) hone m hn hs w
  have hfl := flat_len hone
  have hml : m ≤ m * n := Nat.le_mul_of_pos_right _ E.pos
  have hk := hK _ _ (k (.slice (some ⟨w.heap.size, 0, none⟩) m m) (w.alloc (.cells rows.flatten.toArray e)) w.heap.size (Nat.le_refl _) (by simp) ((Ext.refl w).alloc _) ⟨⟨hfl, .inr ⟨w.heap.size, m, rows.flatten.toArray, by rw [hn], Nat.zero_le _, heap_alloc_new w _, by omega, by unfold maxLen; omega, by rw [hn]; simpa using hfl, by rw [← hfl]; exact List.take_length⟩⟩, hone, fun j hj => by
    cases hj; exact ⟨Nat.le_refl _, by show w.heap.size < _; rw [nblk_alloc']; omega⟩⟩)
  unfold Oper.wp execOp
  simp only [ho]
  rw [show (Instr.buildSlice t m (ps.map fun (i, x) => (i, a.eval x))) = Instr.buildSlice t m (ps.map fun x => (x.1, a.eval x.2)) from rfl]
  simp only [Sem.run_bind, hr, Result.andThen_ok]
  exact hk
theorem slS_cells {s : Value} {ys : List (List Value)} (hs : SlS w s n ys) (hy : ys ≠ []) (hp : 0 < n) : ∃ ad c, s = .slice (some ad) ys.length c ∧ (∀ y ∈ ys, y.length = n) ∧ ∀ j u, ys.flatten[j]? = some u → w.cell? (ad.add j) = some u := by
  obtain ⟨A, c, rfl, h1, h2, h3⟩ := hs
  have heach : ∀ y ∈ ys, y.length = n := fun y hy => by
    obtain ⟨k, hk, rfl⟩ := List.getElem_of_mem hy
    exact (h3 k _ (List.getElem?_eq_getElem hk)).1
  have h0 : 0 < ys.length := List.length_pos_iff.2 hy
  obtain ⟨_, ad, rfl, _⟩ := h3 0 _ (List.getElem?_eq_getElem h0)
  refine ⟨ad, c, rfl, heach, fun j u hj => ?_⟩
  have hjl : j < ys.length * n := by have := (List.getElem?_eq_some_iff.1 hj).1; rwa [flat_len heach] at this
  have hq : j / n < ys.length := Nat.div_lt_of_lt_mul (by rwa [Nat.mul_comm] at hjl)
  obtain ⟨h5, ad', h6, h7⟩ := h3 (j / n) _ (List.getElem?_eq_getElem hq)
  cases h6
  have hr : j % n < (ys[j / n]).length := by rw [h5]; exact Nat.mod_lt _ hp
  have hdm : j / n * n + j % n = j := by rw [Nat.mul_comm]; exact Nat.div_add_mod j n
  have hfg := flat_get heach (j / n) (j % n) _ _ (List.getElem?_eq_getElem hq) (List.getElem?_eq_getElem hr)
  rw [hdm, hj] at hfg
  injection hfg with hfg
  have := h7 (j % n) _ (List.getElem?_eq_getElem hr)
  rw [add_add', hdm, ← hfg] at this
  exact this
theorem run_napp (E : ElN P t e n bytes z) (ty : TypeId) {s : Value} {ys : List (List Value)} (h : RowN F w e n v rows) (hs : SlS w s n ys) (hy : ys ≠ []) (h1 : ∀ y ∈ ys, ∀ u ∈ y, u.oneCell' = true) (hb : (rows.length + ys.length) * bytes ≤ 140737488355328) :
    ∃ v' w', (Builtin.append_ #[t, t] ty #[v, s]).run P w = .ok v' w' ∧ Mod F w w' ∧ RowN (grow F w w') w' e n v' (rows ++ ys) := by
  obtain ⟨i0, hi, hz, hsz, hby⟩ := E.info
  obtain ⟨ad, c, rfl, heach, hcells⟩ := slS_cells hs hy E.pos
  have hm : rows.length + ys.length ≤ maxLen := by
    have := Nat.le_mul_of_pos_right (rows.length + ys.length) E.bpos
    unfold maxLen; omega
  obtain ⟨v', w', hr, h2, h3, _, h5⟩ := run_append_own_at (P := P) w 0 t ty e i0 z n bytes E.hu hi hz hsz hby E.zs E.pos v rows.length rows.flatten h.own ad ys.length c ys.flatten (flat_len heach) hcells (fun u hu => by
    obtain ⟨y, hy1, hy2⟩ := List.mem_flatten.1 hu; exact h1 y hy1 u hy2) hm hb (Nat.zero_le _)
  have hmod : Mod F w w' := (Mod.grown h3).mono fun i _ hi => h.inF i hi
  rw [← List.flatten_append, ← List.length_append] at h2
  refine ⟨v', w', hr, hmod, h2, fun r hr => ?_, fun k hk => ?_⟩
  · rcases List.mem_append.1 hr with hr | hr
    · exact h.each r hr
    · exact heach r hr
  · have hlt := (h2.lt k hk).2
    rcases h5 with h5 | h5
    · exact .inl (h.inF k (by rw [← h5]; exact hk))
    · rw [h5] at hk; cases hk; exact .inr ⟨Nat.le_refl _, hlt⟩
/-- append(v, r..), v an owned slice of records -/
theorem w_napp (E : ElN P t e n bytes z) (x y : Operand) {s : Value} {ys : List (List Value)} (hgd : o.guard = none) (ho : o.op = .call { callee := .builtin .append, args := #[x, y], argTypes := #[t, t] }) (hv : a.eval x = v) (hy : a.eval y = s)
    (h : RowN F w e n v rows) (hs : SlS w s n ys) (hne : ys ≠ []) (h1 : ∀ y ∈ ys, ∀ u ∈ y, u.oneCell' = true) (hb : (rows.length + ys.length) * bytes ≤ 140737488355328)
    (k : ∀ v' w', Mod F w w' → RowN (grow F w w') w' e n v' (rows ++ ys) → wpList P ops Q rest (a.put o.dst v') w') : wpList P ops Q (o :: rest) a w := by
  refine wpList_plain hgd fun K hK => ?_
  obtain ⟨v', w', hr, h2, h3⟩ := run_napp E o.type h hs hne h1 hb
  unfold Oper.wp execOp
  simp only [ho, resolve, invoke, builtin, Sem.run_bind, Sem.run_pure, Result.andThen_ok, List.map_toArray, List.map_cons, List.map_nil, hv, hy, hr]
  exact hK _ _ (k v' w' h2 h3)
end
end Go.Proofs.Ytgbhbifdfcfamaa
namespace Go.Proofs.Ytgbhbifdfcfamaa
set_option maxRecDepth 100000
open Go.RowKit

section
variable {P : Program} {ops : Array Oper} {rest : List Oper} {o : Oper} {a : Act} {Q : Exit → Act → World → Prop} {w : World} {t e : TypeId} {n : Nat}
/-- v[i] of an array of one-cell values. -/
theorem runs_aget {ρ : Operand → Value} {us : List Value} {u : Value} (hu : P.underlying t = some (.array n e)) (hs : (P.info? e).map (·.size) = some 1) (hag : ∀ w, (isAgg e).run P w = .ok false w) (x y : Operand) (i : Nat) (ho : o.op = .index t x y) (hx : ρ x = .agg us.toArray) (hy : ρ y = .int .i64 i) (hi : us[i]? = some u) (hn : us.length = n) : Runs P o ρ w u := by
  cases hq : P.info? e with
  | none => rw [hq] at hs; simp at hs
  | some j =>
    have hj : j.size = 1 := by simpa [hq] using hs
    have hlt : i < n := by rw [← hn]; exact (List.getElem?_eq_some_iff.1 hi).1
    have hpart : (part e us.toArray i).run P w = .ok u w := by
      unfold part
      simp [Sem.run_bind, hag w, Result.andThen_ok, hi]
    have hpart2 : (part e us.toArray (Int.toNat (i : Int) * 1)).run P w = .ok u w := by simpa using hpart
    unfold Runs execOp
    simp [ho, hx, hy, Instr.index, asIntOf, run_underlying hu, sizeOf, typeInfo, hq, hj, hlt, hpart]
theorem w_aget {us : List Value} {u : Value} (hu : P.underlying t = some (.array n e)) (hs : (P.info? e).map (·.size) = some 1) (hag : ∀ w, (isAgg e).run P w = .ok false w) (x y : Operand) (i : Nat) (hgd : o.guard = none) (ho : o.op = .index t x y) (hx : a.eval x = .agg us.toArray) (hy : a.eval y = .int .i64 i) (hi : us[i]? = some u) (hn : us.length = n)
    (k : wpList P ops Q rest (a.put o.dst u) w) : wpList P ops Q (o :: rest) a w := wpList_runs hgd (runs_aget hu hs hag x y i ho hx hy hi hn) k

/-- Field i of the struct type t lies at off, for the kernel. -/
def fieldB (P : Program) (t : TypeId) (i off : Nat) : Bool := match P.underlying t with
  | some (.struct fs) => match fs[i]? with
    | some f => f.offset == off && (match P.info? f.type with | some j => j.size != 0 | none => false)
    | none => false
  | _ => false
/-- &p.f, of any struct -/
theorem runs_fieldN {ρ : Operand → Value} {i off : Nat} (hB : fieldB P t i off = true) (x : Operand) (g : Nat) (ho : o.op = .fieldAddr t x i) (hx : ρ x = .pointer (some ⟨g, 0, none⟩)) : Runs P o ρ w (.pointer (some ⟨g, off, none⟩)) := by
  unfold fieldB at hB
  cases hu : P.underlying t with
  | none => rw [hu] at hB; cases hB
  | some u =>
    rw [hu] at hB
    cases u <;> try cases hB
    rename_i fs
    simp only at hB
    cases hfi : fs[i]? with
    | none => rw [hfi] at hB; cases hB
    | some f =>
      rw [hfi] at hB
      simp only [Bool.and_eq_true, beq_iff_eq] at hB
      obtain ⟨h1, h2⟩ := hB
      cases hq : P.info? f.type with
      | none => rw [hq] at h2; cases h2
      | some j =>
        have h3 : j.size ≠ 0 := by rw [hq] at h2; simpa using h2
        unfold Runs execOp
        have hadd := add_zero_off g off
        simp [ho, hx, Instr.fieldAt, Instr.sureAddr, run_underlying hu, hfi, fieldPlace, sizeOf, typeInfo, hq, h1, hadd, h3]
theorem w_fieldN {i off : Nat} (hB : fieldB P t i off = true) (x : Operand) (g : Nat) (hgd : o.guard = none) (ho : o.op = .fieldAddr t x i) (hx : a.eval x = .pointer (some ⟨g, 0, none⟩))
    (k : wpList P ops Q rest (a.put o.dst (.pointer (some ⟨g, off, none⟩))) w) : wpList P ops Q (o :: rest) a w :=
  wpList_runs hgd (runs_fieldN hB x g ho hx) k

/-- &p.f, p the address of a record of one-cell fields -/
theorem runs_pfield {ρ : Operand → Value} {zs : List Value} (E : St P t n zs) (x : Operand) {p : Addr} (i : Nat) (ho : o.op = .fieldAddr t x i) (hx : ρ x = .pointer (some p)) (hi : i < n) : Runs P o ρ w (.pointer (some (p.add i))) := by
  obtain ⟨fs, hu, hs, hf⟩ := E.u
  have hfi : fs[i]? = some (fs[i]'(by omega)) := Array.getElem?_eq_getElem (by omega)
  obtain ⟨h1, h2⟩ := hf i _ hfi
  cases hq : P.info? (fs[i]'(by omega)).type with
  | none => rw [hq] at h2; simp at h2
  | some j =>
    have hj : j.size = 1 := by simpa [hq] using h2
    unfold Runs execOp
    simp [ho, hx, Instr.fieldAt, Instr.sureAddr, run_underlying hu, hfi, fieldPlace, sizeOf, typeInfo, hq, hj, h1]
theorem w_pfield {zs : List Value} (E : St P t n zs) (x : Operand) {p : Addr} (i : Nat) (hgd : o.guard = none) (ho : o.op = .fieldAddr t x i) (hx : a.eval x = .pointer (some p)) (hi : i < n)
    (k : wpList P ops Q rest (a.put o.dst (.pointer (some (p.add i)))) w) : wpList P ops Q (o :: rest) a w := wpList_runs hgd (runs_pfield E x i ho hx hi) k
/-- A cell of a record, read. -/
theorem w_rowload {ty : TypeId} (x : Operand) {p : Addr} {row : List Value} {i : Nat} {u : Value} (hgd : o.guard = none) (ho : o.op = .load ty x) (hx : a.eval x = .pointer (some (p.add i))) (h : RowAt w p row) (hi : row[i]? = some u) (ha : ∀ w, (isAgg ty).run P w = .ok false w)
    (k : wpList P ops Q rest (a.put o.dst u) w) : wpList P ops Q (o :: rest) a w := by
  have hc := h i u hi
  have key : ∀ ρ : Operand → Value, ρ x = .pointer (some (p.add i)) → Runs P o ρ w u := fun ρ hx => by
    unfold Runs execOp
    simp [ho, hx, go_sem, ha, hc]
  exact wpList_runs hgd (key _ hx) k

/-- A struct type of n cells. -/
structure StN (P : Program) (t : TypeId) (n : Nat) (zs : List Value) : Prop where
  u : ∃ fs, P.underlying t = some (.struct fs)
  info : ∃ i : TypeInfo, P.info? t = some i ∧ i.zero = some (.agg zs.toArray) ∧ i.size = n
  zl : zs.length = n
theorem St.toN {zs : List Value} (E : St P t n zs) : StN P t n zs := by
  obtain ⟨fs, h, _⟩ := E.u
  exact ⟨⟨fs, h⟩, E.info, E.zl⟩
theorem StN.of {P : Program} {t : TypeId} {n : Nat} {zs : List Value} (h : (match P.underlying t with | some (.struct _) => true | _ => false) = true) (hz : (P.info? t).map (fun i => (i.zero, i.size)) = some (some (.agg zs.toArray), n)) (hl : zs.length = n) : StN P t n zs := by
  refine ⟨?_, ?_, hl⟩
  · cases hu : P.underlying t with
    | none => rw [hu] at h; cases h
    | some u => rw [hu] at h; cases u <;> first | exact ⟨_, rfl⟩ | cases h
  · cases hq : P.info? t with
    | none => rw [hq] at hz; simp at hz
    | some i => rw [hq] at hz; simp at hz; exact ⟨i, rfl, hz.1, hz.2⟩
variable {zs : List Value}
/-- A variable of its own, of value zero. -/
theorem w_allocN (E : StN P t n zs) (hgd : o.guard = none) (ho : o.op = .alloc t)
    (k : ∀ g w', w.heap.size ≤ g → Ext w w' → Fs w' g zs → wpList P ops Q rest (a.put o.dst (.pointer (some ⟨g, 0, none⟩))) w') : wpList P ops Q (o :: rest) a w := by
  obtain ⟨i0, hi, hz, hs⟩ := E.info
  refine wpList_plain hgd fun K hK => ?_
  have hk := hK _ _ (k _ _ (Nat.le_refl _) ((Ext.refl w).alloc (.cells zs.toArray t)) (by simpa using Fs.alloc w zs.toArray t))
  unfold Oper.wp execOp
  simp [ho, Instr.alloc, newVar, newRow, zeroValue, typeInfo, hi, hz, Value.cells]
  exact hk
/-- A struct within a struct, read. -/
theorem runs_loadN {ρ : Operand → Value} (E : StN P t n zs) (x : Operand) {g off : Nat} {cs us : List Value} (ho : o.op = .load t x) (hx : ρ x = .pointer (some ⟨g, off, none⟩)) (h : Fs w g cs) (hl : us.length = n) (hus : ∀ j u, us[j]? = some u → cs[off + j]? = some u) : Runs P o ρ w (.agg us.toArray) := by
  obtain ⟨fs, hu⟩ := E.u
  obtain ⟨i0, hi, _, hs⟩ := E.info
  have hadd : ∀ j, (⟨g, off, none⟩ : Addr).add j = ⟨g, off + j, none⟩ := fun j => by unfold Addr.add; split <;> simp_all
  have hc := run_loadCells_list (P := P) w ⟨g, off, none⟩ us (fun j u hj => by rw [hadd]; exact h.cell (hus j u hj))
  rw [hl] at hc
  unfold Runs execOp
  simp [ho, hx, Instr.loadAt, Instr.sureAddr, loadVar, isAgg, run_underlying hu, sizeOf, typeInfo, hi, hs, hc]
theorem w_loadN (E : StN P t n zs) (x : Operand) {g off : Nat} {cs : List Value} (us : List Value) (hgd : o.guard = none) (ho : o.op = .load t x) (hx : a.eval x = .pointer (some ⟨g, off, none⟩)) (h : Fs w g cs) (hl : us.length = n) (hus : ∀ j u, us[j]? = some u → cs[off + j]? = some u)
    (k : wpList P ops Q rest (a.put o.dst (.agg us.toArray)) w) : wpList P ops Q (o :: rest) a w := wpList_runs hgd (runs_loadN E x ho hx h hl hus) k
theorem w_ploadN (E : StN P t n zs) (x : Operand) {p : Addr} {cs : List Value} (hgd : o.guard = none) (ho : o.op = .load t x) (hx : a.eval x = .pointer (some p)) (h : RowAt w p cs) (hl : cs.length = n)
    (k : wpList P ops Q rest (a.put o.dst (.agg cs.toArray)) w) : wpList P ops Q (o :: rest) a w := by
  obtain ⟨fs, hu⟩ := E.u
  obtain ⟨i0, hi, _, hs⟩ := E.info
  have hc := run_loadCells_list (P := P) w p cs h
  rw [hl] at hc
  refine wpList_runs hgd ?_ k
  have key : ∀ ρ : Operand → Value, ρ x = .pointer (some p) → Runs P o ρ w (.agg cs.toArray) := fun ρ hx => by
    unfold Runs execOp
    simp [ho, hx, Instr.loadAt, Instr.sureAddr, loadVar, isAgg, run_underlying hu, sizeOf, typeInfo, hi, hs, hc]
  exact key _ hx
/-- The whole struct, written: the world under a new name. -/
theorem w_astoreN (E : StN P t n zs) (x y : Operand) {g : Nat} {cs us : List Value} (hgd : o.guard = none) (ho : o.op = .store t x y) (hd : o.dst = none) (hx : a.eval x = .pointer (some ⟨g, 0, none⟩)) (hy : a.eval y = .agg us.toArray) (h : Fs w g cs) (hl : cs.length = n) (hl' : us.length = n) (h1 : ∀ u ∈ us, u.oneCell' = true)
    (k : ∀ w', Mod (fun k => k = g) w w' → Fs w' g us → wpList P ops Q rest a w') : wpList P ops Q (o :: rest) a w := by
  obtain ⟨i0, hi, _, hs⟩ := E.info
  refine wpList_plain hgd fun K hK => ?_
  have hr := run_storeCells_cells (P := P) g 0 us 0 w (fun j hj => by
    have hj' : j < cs.length := by omega
    simp [h.cell (List.getElem?_eq_getElem hj')]) (fun j _ => by simpa using h.frozen j) h1
  have hk := hK _ _ (k _ (setCells_mod us 0 w g) (by
    have := setCells_fs us 0 (pre := []) (post := []) (old := cs) (w := w) (g := g) (by simpa using h) rfl (by omega)
    simpa using this))
  unfold Oper.wp execOp
  simp only [ho, hx, hy, Sem.run_bind, Instr.storeAt, storeVar, Instr.sureAddr, Sem.run_pure, Result.andThen_ok, sizeOf, typeInfo]
  simp [hi, hs, hl', Value.cells]
  simp at hr
  simp [hr, Oper.upon, hd, Act.put]
  exact hk
end
end Go.Proofs.Ytgbhbifdfcfamaa
namespace Go.Proofs.Ytgbhbifdfcfamaa
set_option maxRecDepth 100000
open Go.RowKit

/-- Block g is a row of just the bytes l. -/
def Lit (w : World) (g : Nat) (l : List Nat) : Prop := w.heap[g]? = some (.cells (u8s l).toArray 5 (0, 0))

theorem run_bconv {w : World} {g : Nat} {l : List Nat} (h : Lit w g l) : (convert 33 33 (.slice (some ⟨g, 0, none⟩) l.length l.length)).run Try.prog w = .ok (.slice (some ⟨g, 0, none⟩) l.length l.length) (w.freeze ⟨g, l.length, none⟩ 1) := by
  have hsh : w.shape? g = some (5, l.length) := by unfold World.shape?; rw [h]; simp [u8s_length]
  simp [convert, run_underlying Try.underlying33, run_underlying Try.underlying5, markStringish, hsh]
theorem freeze_mod (w : World) (a : Addr) (n : Nat) : Mod (fun k => k = a.block) w (w.freeze a n) := by
  unfold World.freeze
  split
  · exact Mod.refl _ _
  · exact ⟨rfl, rfl, rfl, by simp, fun k hk hn => by simp only [Array.getElem?_modify]; rw [if_neg (fun e => hn e.symm)]⟩
theorem freeze_byt {w : World} {g : Nat} {l : List Nat} (h : Lit w g l) (hl : l.length ≤ 1000000) (k : Nat) : Byt (w.freeze ⟨g, k, none⟩ 1) (.slice (some ⟨g, 0, none⟩) l.length l.length) l := by
  refine ⟨some ⟨g, 0, none⟩, l.length, by rw [u8s_length], by rw [u8s_length]; exact Nat.le_refl _, by simp only [maxLen]; omega, fun j u hj => ⟨_, rfl, ?_⟩⟩
  rw [add_zero_off]
  unfold World.freeze
  rw [if_neg (by decide)]
  simp only [World.cell?, Array.getElem?_modify, if_true]
  rw [show w.heap[g]? = _ from h]
  simp only [Option.map_some]
  simpa using hj

section
variable {ops : Array Oper} {rest : List Oper} {o : Oper} {a : Act} {Q : Exit → Act → World → Prop} {w : World}
/-- The bytes of a literal, laid in a row; the conversion is the next operation (w_bconv). -/
theorem w_blit {n : Nat} {ps : Array (Nat × Operand)} (l : List Nat) (hgd : o.guard = none) (ho : o.op = .buildSlice 33 n ps)
    (hps : (ps.toList.map fun x => (x.1, a.eval x.2)) = ((u8s l).zipIdx 0).map fun p => (p.2, p.1)) (hn : n = l.length) (hs : n ≤ 1000000)
    (k : ∀ g w', w.heap.size ≤ g → Ext w w' → Lit w' g l → wpList Try.prog ops Q rest (a.put o.dst (.slice (some ⟨g, 0, none⟩) l.length l.length)) w') : wpList Try.prog ops Q (o :: rest) a w := by
  subst hn
  exact w_build Try.elB _ ps (u8s l) hgd ho hps (u8s_cells l) (by rw [u8s_length]) hs (k _ _ (Nat.le_refl _) ((Ext.refl w).alloc _) (heap_alloc_new w _))
/-- []byte{}: owned, from a block B on. -/
theorem w_bempty (hgd : o.guard = none) (ho : o.op = .buildSlice 33 0 #[])
    (k : ∀ v' w' B, w.heap.size ≤ B → B ≤ w'.heap.size → Ext w w' → OwnB B w' v' [] → wpList Try.prog ops Q rest (a.put o.dst v') w') : wpList Try.prog ops Q (o :: rest) a w :=
  w_new Try.elB (u8s []) hgd ho rfl (by simp [u8s]) rfl (by omega) fun v' w' hx h => k v' w' _ (Nat.le_refl _) hx.size hx h
theorem w_bconv {l : List Nat} {w0 : World} (x : Operand) {g : Nat} (hgd : o.guard = none) (ho : o.op = .convert 33 33 x) (hx : a.eval x = .slice (some ⟨g, 0, none⟩) l.length l.length) (hg : w0.heap.size ≤ g) (he : Ext w0 w) (h : Lit w g l) (hl : l.length ≤ 1000000)
    (k : ∀ v w', Ext w0 w' → Byt w' v l → (∀ k, v.ownBlock = some k → w0.heap.size ≤ k ∧ k < w'.heap.size) → wpList Try.prog ops Q rest (a.put o.dst v) w') : wpList Try.prog ops Q (o :: rest) a w := by
  have hr := run_bconv h
  have hm := freeze_mod w ⟨g, l.length, none⟩ 1
  have hk0 := k _ _ (hm.after he fun i hi => by subst hi; exact hg) (freeze_byt h hl l.length) (fun j hj => by
    cases hj
    exact ⟨hg, Nat.lt_of_lt_of_le (Array.getElem?_eq_some_iff.1 h).1 hm.size⟩)
  refine wpList_plain hgd fun K hK => ?_
  have hk := hK _ _ hk0
  unfold Oper.wp execOp
  simp only [ho, hx, Sem.run_bind, hr, Result.andThen_ok]
  exact hk
end
end Go.Proofs.Ytgbhbifdfcfamaa
namespace Go.Proofs.Ytgbhbifdfcfamaa
set_option maxRecDepth 100000
open Go.RowKit

section
variable {w w' : World} {v v' : Value}
/-- Where its new block lies. -/
theorem RowN.off {F : Nat → Prop} {e : TypeId} {n : Nat} {rows : List (List Value)} (hn : RowN (grow (fun k => v.ownBlock = some k) w w') w' e n v' rows) (hF : ∀ k, F k → k < w.heap.size) (hd : ∀ k, v.ownBlock = some k → ¬ F k) : ∀ k, v'.ownBlock = some k → ¬ F k := fun k hk h => by
  rcases hn.inF k hk with h1 | h1
  · exact hd k h1 h
  · have := hF k h; omega
end
section
variable {P : Program} {ops : Array Oper} {rest : List Oper} {o : Oper} {a : Act} {Q : Exit → Act → World → Prop} {w W0 : World} {v : Value} {t e : TypeId} {α : Type} {n : Nat} {R : World → List Value → α → Prop} {l : List α}
theorem runs_nto {ρ : Operand → Value} (E : ElS P t e n) (x y : Operand) (j : Nat) (ho : o.op = .slice t x none (some y) none) (hv : ρ x = v) (hy : ρ y = .int .i64 j) (h : Recs n R W0 v l) (hj : j ≤ l.length) :
    ∃ v', Runs P o ρ w v' ∧ Recs n R W0 v' (l.take j) ∧ v'.ownBlock = v.ownBlock := by
  obtain ⟨rows, ⟨A, c, rfl, h1, h2, h3⟩, hl, h4⟩ := h
  obtain ⟨i0, hi0, hsz⟩ := E.info
  have hu := E.hu
  have b1 : (Instr.sliceBound (.int .i64 (j : Int)) c .sliceAcap).run P w = .ok j w := by
    have : j ≤ c := by omega
    simp [Instr.sliceBound, go_sem]; omega
  refine ⟨.slice A j c, ?_, ⟨rows.take j, ⟨A, c, by simp; omega, by simp; omega, h2, fun k row hk => ?_⟩, by simp; omega, fun k row d hk hd => ?_⟩, by cases A <;> rfl⟩
  · unfold Runs execOp
    have hA : (A.map fun x : Addr => x.add 0) = A := by cases A <;> simp [Addr.add_zero']
    simp [ho, hv, hy, Instr.sliceAt, Instr.slice, run_underlying hu, Instr.sliceBounds, sizeOf, typeInfo, hi0, b1, Addr.add_zero']
  · rw [List.getElem?_take] at hk
    split at hk
    · exact h3 k row hk
    · cases hk
  · rw [List.getElem?_take] at hk hd
    split at hk
    · rename_i hlt
      rw [if_pos hlt] at hd
      exact h4 k row d hk hd
    · cases hk
/-- v[:j] of a slice of records: as they were at W0. -/
theorem w_nto0 (E : ElS P t e n) (x y : Operand) (j : Nat) (hgd : o.guard = none) (ho : o.op = .slice t x none (some y) none) (hv : a.eval x = v) (hy : a.eval y = .int .i64 j) (h : Recs n R W0 v l) (hj : j ≤ l.length)
    (k : ∀ v', Recs n R W0 v' (l.take j) → wpList P ops Q rest (a.put o.dst v') w) : wpList P ops Q (o :: rest) a w := by
  obtain ⟨v', h1, h2, _⟩ := runs_nto E x y j ho hv hy h hj
  exact wpList_runs hgd h1 (k v' h2)
/-- v[:j] of a slice of records -/
theorem w_nto (E : ElS P t e n) (x y : Operand) (j : Nat) (hgd : o.guard = none) (ho : o.op = .slice t x none (some y) none) (hv : a.eval x = v) (hy : a.eval y = .int .i64 j) (h : Recs n R w v l) (hj : j ≤ l.length)
    (k : ∀ v', Recs n R w v' (l.take j) → wpList P ops Q rest (a.put o.dst v') w) : wpList P ops Q (o :: rest) a w := w_nto0 E x y j hgd ho hv hy h hj k
end
end Go.Proofs.Ytgbhbifdfcfamaa
namespace Go.Proofs.Ytgbhbifdfcfamaa
set_option maxRecDepth 100000
open Go.RowKit

section
variable {P : Program} {ops : Array Oper} {rest : List Oper} {o : Oper} {a : Act} {Q : Exit → Act → World → Prop} {F : Nat → Prop} {w : World} {v : Value} {rows : List (List Value)} {t e : TypeId} {n bytes : Nat} {z : Value}
theorem run_napp0 (E : ElN P t e n bytes z) (ty : TypeId) {s : Value} {ys : List (List Value)} (h : RowN F w e n v rows) (hs : SlS w s n ys) (h1 : ∀ y ∈ ys, ∀ u ∈ y, u.oneCell' = true) (hb : (rows.length + ys.length) * bytes ≤ 140737488355328) :
    ∃ v' w', (Builtin.append_ #[t, t] ty #[v, s]).run P w = .ok v' w' ∧ Mod F w w' ∧ RowN (grow F w w') w' e n v' (rows ++ ys) := by
  by_cases hy : ys = []
  rotate_left
  · exact run_napp E ty h hs hy h1 hb
  subst hy
  obtain ⟨A, c, rfl, _⟩ := hs
  obtain ⟨i0, hi, hz, hsz, hby⟩ := E.info
  have hu := E.hu
  cases A with
  | none =>
    refine ⟨v, w, ?_, Mod.refl F w, by rw [List.append_nil]; exact h.mono fun k hk => .inl hk⟩
    obtain ⟨⟨_, ⟨rfl, _⟩ | ⟨g, cap, cur, rfl, _, _, hnc, _⟩⟩, _, _⟩ := h
    · simp [Builtin.append_, run_underlying hu, sizeOf, typeInfo, hi, Builtin.lenOf, Builtin.firstCells]
    · simp [Builtin.append_, run_underlying hu, sizeOf, typeInfo, hi, Builtin.lenOf, Builtin.firstCells, hnc, storeCells]
  | some ad =>
    have hm : rows.length + 0 ≤ maxLen := by
      have h2 : rows.length * bytes ≤ 140737488355328 := by simpa using hb
      have := Nat.le_mul_of_pos_right rows.length E.bpos
      unfold maxLen; omega
    obtain ⟨v', w', hr, h2, h3, _, h5⟩ := run_append_own_at (P := P) w 0 t ty e i0 z n bytes E.hu hi hz hsz hby E.zs E.pos v rows.length rows.flatten h.own ad 0 c [] (by simp) (fun j u hj => by simp at hj) (by simp) hm (by simpa using hb) (Nat.zero_le _)
    have hmod : Mod F w w' := (Mod.grown h3).mono fun i _ hi => h.inF i hi
    rw [List.append_nil, Nat.add_zero] at h2
    rw [List.append_nil]
    refine ⟨v', w', hr, hmod, h2, h.each, fun k hk => ?_⟩
    have hlt := (h2.lt k hk).2
    rcases h5 with h5 | h5
    · exact .inl (h.inF k (by rw [← h5]; exact hk))
    · rw [h5] at hk; cases hk; exact .inr ⟨Nat.le_refl _, hlt⟩
/-- append(v, s...), v an owned slice of records -/
theorem w_napp0 (E : ElN P t e n bytes z) (x y : Operand) {s : Value} {ys : List (List Value)} (hgd : o.guard = none) (ho : o.op = .call { callee := .builtin .append, args := #[x, y], argTypes := #[t, t] }) (hv : a.eval x = v) (hy : a.eval y = s)
    (h : RowN F w e n v rows) (hs : SlS w s n ys) (h1 : ∀ y ∈ ys, ∀ u ∈ y, u.oneCell' = true) (hb : (rows.length + ys.length) * bytes ≤ 140737488355328)
    (k : ∀ v' w', Mod F w w' → RowN (grow F w w') w' e n v' (rows ++ ys) → wpList P ops Q rest (a.put o.dst v') w') : wpList P ops Q (o :: rest) a w := by
  refine wpList_plain hgd fun K hK => ?_
  obtain ⟨v', w', hr, h2, h3⟩ := run_napp0 E o.type h hs h1 hb
  unfold Oper.wp execOp
  simp only [ho, resolve, invoke, builtin, Sem.run_bind, Sem.run_pure, Result.andThen_ok, List.map_toArray, List.map_cons, List.map_nil, hv, hy, hr]
  exact hK _ _ (k v' w' h2 h3)
end
end Go.Proofs.Ytgbhbifdfcfamaa
namespace Go.Proofs.Ytgbhbifdfcfamaa
set_option maxRecDepth 100000
open Go.RowKit

section
variable {P : Program} {ops : Array Oper} {rest : List Oper} {a : Act} {Q : Exit → Act → World → Prop} {w : World} {d : Option Tmp} {ty t t' : TypeId} {pos : String} {af : Array Edge} {gd : Option (Nat × Bool)} {x y : Operand} {n : Nat} {ps : Array (Nat × Operand)} {bo : BinOp}
theorem at_load (h : wpList P ops Q (⟨d, .load t x, ty, pos, af, gd⟩ :: rest) a w) : wpList P ops Q (⟨d, .load t x, ty, pos, af, gd⟩ :: rest) a w := h
theorem at_alloc (h : wpList P ops Q (⟨d, .alloc t, ty, pos, af, gd⟩ :: rest) a w) : wpList P ops Q (⟨d, .alloc t, ty, pos, af, gd⟩ :: rest) a w := h
theorem at_store (h : wpList P ops Q (⟨d, .store t x y, ty, pos, af, gd⟩ :: rest) a w) : wpList P ops Q (⟨d, .store t x y, ty, pos, af, gd⟩ :: rest) a w := h
theorem at_idx (h : wpList P ops Q (⟨d, .indexAddr t x y, ty, pos, af, gd⟩ :: rest) a w) : wpList P ops Q (⟨d, .indexAddr t x y, ty, pos, af, gd⟩ :: rest) a w := h
theorem at_get (h : wpList P ops Q (⟨d, .index t x y, ty, pos, af, gd⟩ :: rest) a w) : wpList P ops Q (⟨d, .index t x y, ty, pos, af, gd⟩ :: rest) a w := h
theorem at_field (h : wpList P ops Q (⟨d, .fieldAddr t x n, ty, pos, af, gd⟩ :: rest) a w) : wpList P ops Q (⟨d, .fieldAddr t x n, ty, pos, af, gd⟩ :: rest) a w := h
theorem at_box (h : wpList P ops Q (⟨d, .box t x, ty, pos, af, gd⟩ :: rest) a w) : wpList P ops Q (⟨d, .box t x, ty, pos, af, gd⟩ :: rest) a w := h
theorem at_sbuild (h : wpList P ops Q (⟨d, .build t ps, ty, pos, af, gd⟩ :: rest) a w) : wpList P ops Q (⟨d, .build t ps, ty, pos, af, gd⟩ :: rest) a w := h
theorem at_lit (h : wpList P ops Q (⟨d, .buildSlice t n ps, ty, pos, af, gd⟩ :: rest) a w) : wpList P ops Q (⟨d, .buildSlice t n ps, ty, pos, af, gd⟩ :: rest) a w := h
theorem at_cut {lo hi mx : Option Operand} (h : wpList P ops Q (⟨d, .slice t x lo hi mx, ty, pos, af, gd⟩ :: rest) a w) : wpList P ops Q (⟨d, .slice t x lo hi mx, ty, pos, af, gd⟩ :: rest) a w := h
theorem at_conv (h : wpList P ops Q (⟨d, .convert t t' x, ty, pos, af, gd⟩ :: rest) a w) : wpList P ops Q (⟨d, .convert t t' x, ty, pos, af, gd⟩ :: rest) a w := h
theorem at_bin (h : wpList P ops Q (⟨d, .binOp bo t x y t', ty, pos, af, gd⟩ :: rest) a w) : wpList P ops Q (⟨d, .binOp bo t x y t', ty, pos, af, gd⟩ :: rest) a w := h
theorem at_bi {b : Builtin} {xs : Array Operand} {tys : Array TypeId} (h : wpList P ops Q (⟨d, .call { callee := .builtin b, args := xs, argTypes := tys }, ty, pos, af, gd⟩ :: rest) a w) : wpList P ops Q (⟨d, .call { callee := .builtin b, args := xs, argTypes := tys }, ty, pos, af, gd⟩ :: rest) a w := h
end
end Go.Proofs.Ytgbhbifdfcfamaa
namespace Go.Proofs.Ytgbhbifdfcfamaa
set_option maxRecDepth 100000
open Go.RowKit

/-- An owned slice whose block is new since W. -/
structure OwnA (W w : World) (e : TypeId) (v : Value) (xs : List Value) : Prop where
  own : Row (fun k => v.ownBlock = some k) w e v xs
  new : ∀ k, v.ownBlock = some k → W.heap.size ≤ k
section
variable {W w w' : World} {e : TypeId} {v v' : Value} {xs ys : List Value}
theorem OwnA.ext (h : OwnA W w e v xs) (he : Ext w w') : OwnA W w' e v xs := ⟨h.own.ext he, h.new⟩
theorem OwnA.mod {G : Nat → Prop} (h : OwnA W w e v xs) (hm : Mod G w w') (hG : ∀ k, v.ownBlock = some k → ¬ G k) : OwnA W w' e v xs := ⟨h.own.mod hm hG, h.new⟩
theorem OwnA.lt (h : OwnA W w e v xs) {k : Nat} (hk : v.ownBlock = some k) : k < w.heap.size := h.own.lt hk
theorem OwnA.sl (h : OwnA W w e v xs) : Sl w v xs := h.own.sl
theorem OwnA.of {base : Nat} (h : w.ownsRow base e 1 v xs.length xs) (hb : W.heap.size ≤ base) : OwnA W w e v xs := ⟨⟨own_mono h (Nat.zero_le _), fun _ hk => hk⟩, fun k hk => Nat.le_trans hb (h.lt k hk).1⟩
theorem OwnA.app (h : OwnA W w e v xs) (hx : W.heap.size ≤ w.heap.size) (hr : Row (grow (fun k => v.ownBlock = some k) w w') w' e v' (xs ++ ys)) : OwnA W w' e v' (xs ++ ys) :=
  ⟨⟨hr.own, fun _ hk => hk⟩, fun k hk => (hr.inF k hk).elim (h.new k) fun e => Nat.le_trans hx e.1⟩
/-- Where its block lies behind an append. -/
theorem Row.off {F : Nat → Prop} {xs : List Value} (hr : Row (grow (fun k => v.ownBlock = some k) w w') w' e v' xs) (hF : ∀ k, F k → k < w.heap.size) (hd : ∀ k, v.ownBlock = some k → ¬ F k) : ∀ k, v'.ownBlock = some k → ¬ F k := fun k hk h => by
  rcases hr.inF k hk with h1 | h1
  · exact hd k h1 h
  · have := hF k h; omega
end
end Go.Proofs.Ytgbhbifdfcfamaa
