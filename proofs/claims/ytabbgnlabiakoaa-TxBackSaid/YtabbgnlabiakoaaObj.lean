/- Frames by sets of blocks; blocks of cells that the call owns (structs behind pointers, boxed values); steps of a walk at them. -/
import Derived.Test.YtabbgnlabiakoaaBase
namespace Go.Proofs.Ytabbgnlabiakoaa
open Go.RowKit

/-- w' is w, but for blocks of F and new ones. -/
structure Mod (F : Nat → Prop) (w w' : World) : Prop where
  os : w'.os = w.os
  tape : w'.tape = w.tape
  output : w'.output = w.output
  size : w.heap.size ≤ w'.heap.size
  block : ∀ k, k < w.heap.size → ¬ F k → w'.heap[k]? = w.heap[k]?

theorem Mod.refl (F : Nat → Prop) (w : World) : Mod F w w := ⟨rfl, rfl, rfl, Nat.le_refl _, fun _ _ _ => rfl⟩
theorem Mod.trans {F G : Nat → Prop} {a b c : World} (h : Mod F a b) (k : Mod G b c) (hs : ∀ i, i < a.heap.size → G i → F i) : Mod F a c :=
  ⟨k.os.trans h.os, k.tape.trans h.tape, k.output.trans h.output, Nat.le_trans h.size k.size,
   fun i hi hn => (k.block i (Nat.lt_of_lt_of_le hi h.size) fun hg => hn (hs i hi hg)).trans (h.block i hi hn)⟩
theorem Mod.mono {F G : Nat → Prop} {a b : World} (h : Mod F a b) (hs : ∀ i, i < a.heap.size → F i → G i) : Mod G a b :=
  ⟨h.os, h.tape, h.output, h.size, fun i hi hn => h.block i hi fun hf => hn (hs i hi hf)⟩
theorem Ext.mod {a b : World} (h : Ext a b) (F : Nat → Prop) : Mod F a b := ⟨h.os, h.tape, h.output, h.size, fun i hi _ => h.block i hi⟩
theorem Mod.ext {F : Nat → Prop} {a b : World} (h : Mod F a b) (hn : ∀ i, i < a.heap.size → ¬ F i) : Ext a b := ⟨h.os, h.tape, h.output, h.size, fun i hi => h.block i hi (hn i hi)⟩
theorem Mod.after {F : Nat → Prop} {a b c : World} (h : Ext a b) (k : Mod F b c) (hF : ∀ i, F i → a.heap.size ≤ i) : Ext a c :=
  ⟨k.os.trans h.os, k.tape.trans h.tape, k.output.trans h.output, Nat.le_trans h.size k.size,
   fun i hi => (k.block i (Nat.lt_of_lt_of_le hi h.size) fun hf => by have := hF i hf; omega).trans (h.block i hi)⟩
theorem Mod.setCell (w : World) (p : Addr) (u : Value) : Mod (fun k => k = p.block) w (w.setCell p u) :=
  ⟨rfl, rfl, rfl, by simp [World.setCell], fun k _ hk => Below.heap_setCell _ _ _ _ hk⟩
theorem Mod.grown {w w' : World} {v : Value} (h : w.grownBy w' v.ownBlock) : Mod (fun k => v.ownBlock = some k) w w' :=
  ⟨h.os, h.tape, h.output, h.size, fun k hk hn => h.block k hk fun e => hn e.symm⟩

/-- What may be written, F, became F': new blocks at most have come to it. -/
structure Upd (F F' : Nat → Prop) (w w' : World) : Prop where
  mod : Mod F w w'
  sub : ∀ k, F' k → F k ∨ (w.heap.size ≤ k ∧ k < w'.heap.size)
theorem Upd.refl (F : Nat → Prop) (w : World) : Upd F F w w := ⟨Mod.refl F w, fun _ h => .inl h⟩
theorem Upd.ofExt {w w' : World} (h : Ext w w') (F : Nat → Prop) : Upd F F w w' := ⟨h.mod F, fun _ h => .inl h⟩
theorem Upd.trans {F F' F'' : Nat → Prop} {a b c : World} (h : Upd F F' a b) (k : Upd F' F'' b c) : Upd F F'' a c :=
  ⟨h.mod.trans k.mod fun i hi hf => (h.sub i hf).resolve_right fun e => by omega,
   fun i hi => by
    have h1 := h.mod.size
    have h2 := k.mod.size
    rcases k.sub i hi with h3 | h3
    · rcases h.sub i h3 with h4 | h4
      · exact .inl h4
      · exact .inr ⟨h4.1, by omega⟩
    · exact .inr ⟨by omega, h3.2⟩⟩
theorem Upd.size {F F' : Nat → Prop} {a b : World} (h : Upd F F' a b) : a.heap.size ≤ b.heap.size := h.mod.size

/-- All that was there at W is as it was, and F is new since. -/
structure Out (W : World) (F : Nat → Prop) (w : World) : Prop where
  ext : Ext W w
  new : ∀ k, F k → W.heap.size ≤ k
theorem Out.start (W : World) : Out W (fun _ => False) W := ⟨Ext.refl W, fun _ h => h.elim⟩
theorem Out.upd {W w w' : World} {F F' : Nat → Prop} (h : Out W F w) (u : Upd F F' w w') : Out W F' w' :=
  ⟨Mod.after h.ext u.mod h.new, fun k hk => by
    have := h.ext.size
    rcases u.sub k hk with h1 | h1
    · exact h.new k h1
    · omega⟩
theorem Out.extend {W w w' : World} {F : Nat → Prop} (h : Out W F w) (u : Ext w w') : Out W F w' := ⟨h.ext.trans u, h.new⟩
theorem Out.mono {W w : World} {F F' : Nat → Prop} (h : Out W F w) (hs : ∀ k, F' k → F k) : Out W F' w := ⟨h.ext, fun k hk => h.new k (hs k hk)⟩

/-- Something else that is new turned. -/
theorem Out.other {W w w' : World} {F G : Nat → Prop} (h : Out W F w) (hm : Mod G w w') (hG : ∀ k, G k → W.heap.size ≤ k) : Out W F w' := ⟨hm.after h.ext hG, h.new⟩
/-- The slice v reads as xs, and lies outside of G. -/
structure Safe (G : Nat → Prop) (w : World) (v : Value) (xs : List Value) : Prop where
  sl : Sl w v xs
  off : ∀ k, v.ownBlock = some k → ¬ G k
  lt : ∀ k, v.ownBlock = some k → k < w.heap.size
theorem Sl.mod {F : Nat → Prop} {w w' : World} {v : Value} {xs : List Value} (h : Sl w v xs) (hm : Mod F w w') (hd : ∀ k, v.ownBlock = some k → ¬ F k) : Sl w' v xs := by
  obtain ⟨A, c, rfl, h1, h2, h3⟩ := h
  refine ⟨A, c, rfl, h1, h2, fun k u hk => ?_⟩
  obtain ⟨ad, rfl, hc⟩ := h3 k u hk
  refine ⟨ad, rfl, ?_⟩
  have hb : (ad.add k).block = ad.block := blk_add ad k
  have hlt := World.block_lt_of_cell? w _ hc
  rw [World.cell?_of_block (w := w) (hm.block _ hlt (by rw [hb]; exact hd ad.block rfl))]; exact hc
/-- The block of what reads as something is there. -/
theorem Sl.block_lt {w : World} {v : Value} {xs : List Value} (h : Sl w v xs) (hn : xs ≠ []) {k : Nat} (hk : v.ownBlock = some k) : k < w.heap.size := by
  obtain ⟨A, c, rfl, h1, h2, h3⟩ := h
  cases xs with
  | nil => exact absurd rfl hn
  | cons x r =>
    obtain ⟨ad, rfl, hc⟩ := h3 0 x rfl
    have hlt := World.block_lt_of_cell? w _ hc
    rw [blk_add] at hlt
    simp [Value.ownBlock] at hk; omega
/-- An empty slice reads as nothing everywhere. -/
theorem Sl.empty {w : World} (w' : World) {v : Value} (h : Sl w v []) : Sl w' v [] := by
  obtain ⟨A, c, rfl, h1, h2, h3⟩ := h
  exact ⟨A, c, rfl, h1, h2, fun k u hk => by simp at hk⟩
theorem Safe.ext {G : Nat → Prop} {w w' : World} {v : Value} {xs : List Value} (h : Safe G w v xs) (he : Ext w w') : Safe G w' v xs := ⟨h.sl.ext he, h.off, fun k hk => Nat.lt_of_lt_of_le (h.lt k hk) he.size⟩
theorem Safe.mod {G F : Nat → Prop} {w w' : World} {v : Value} {xs : List Value} (h : Safe G w v xs) (hm : Mod F w w') (hs : ∀ k, F k → G k) : Safe G w' v xs :=
  ⟨h.sl.mod hm fun k hk hf => h.off k hk (hs k hf), h.off, fun k hk => Nat.lt_of_lt_of_le (h.lt k hk) hm.size⟩
theorem Safe.mod' {G F : Nat → Prop} {w w' : World} {v : Value} {xs : List Value} (h : Safe G w v xs) (hm : Mod F w w') (hd : ∀ k, v.ownBlock = some k → ¬ F k) : Safe G w' v xs := ⟨h.sl.mod hm hd, h.off, fun k hk => Nat.lt_of_lt_of_le (h.lt k hk) hm.size⟩
theorem Safe.weak {G G' : Nat → Prop} {w : World} {v : Value} {xs : List Value} (h : Safe G w v xs) (hs : ∀ k, k < w.heap.size → G' k → G k) : Safe G' w v xs := ⟨h.sl, fun k hk hg => h.off k hk (hs k (h.lt k hk) hg), h.lt⟩
theorem Safe.upd {F F' : Nat → Prop} {w w' : World} {v : Value} {xs : List Value} (h : Safe F w v xs) (u : Upd F F' w w') : Safe F' w' v xs :=
  ⟨h.sl.mod u.mod h.off, fun k hk hf => (u.sub k hf).elim (h.off k hk) fun e => by have := h.lt k hk; omega, fun k hk => Nat.lt_of_lt_of_le (h.lt k hk) u.size⟩
theorem Safe.updU {F F' : Nat → Prop} {g : Nat} {w w' : World} {v : Value} {xs : List Value} (h : Safe (fun k => F k ∨ k = g) w v xs) (u : Upd F F' w w') : Safe (fun k => F' k ∨ k = g) w' v xs :=
  ⟨h.sl.mod u.mod fun k hk hf => h.off k hk (.inl hf), fun k hk hf => hf.elim (fun hf => (u.sub k hf).elim (fun e => h.off k hk (.inl e)) fun e => by have := h.lt k hk; omega) fun e => h.off k hk (.inr e), fun k hk => Nat.lt_of_lt_of_le (h.lt k hk) u.size⟩

/-- Block g holds the cells cs, and the call may write to it. -/
def Fs (w : World) (g : Nat) (cs : List Value) : Prop := ∃ e, w.heap[g]? = some (.cells cs.toArray e (0, 0))
theorem Fs.lt {w : World} {g : Nat} {cs : List Value} (h : Fs w g cs) : g < w.heap.size := by obtain ⟨e, h⟩ := h; exact (Array.getElem?_eq_some_iff.1 h).1
theorem Fs.mod {F : Nat → Prop} {w w' : World} {g : Nat} {cs : List Value} (h : Fs w g cs) (hm : Mod F w w') (hn : ¬ F g) : Fs w' g cs := by
  have hl := h.lt
  obtain ⟨e, h⟩ := h; exact ⟨e, by rw [hm.block g hl hn]; exact h⟩
theorem Fs.ext {w w' : World} {g : Nat} {cs : List Value} (h : Fs w g cs) (he : Ext w w') : Fs w' g cs := by
  have hl := h.lt
  obtain ⟨e, h⟩ := h; exact ⟨e, by rw [he.block g hl]; exact h⟩
theorem Fs.cell {w : World} {g : Nat} {cs : List Value} (h : Fs w g cs) {i : Nat} {u : Value} (hi : cs[i]? = some u) : w.cell? ⟨g, i, none⟩ = some u := by
  obtain ⟨e, h⟩ := h
  simp [World.cell?, h, hi]
theorem Fs.frozen {w : World} {g : Nat} {cs : List Value} (h : Fs w g cs) (i : Nat) : w.frozen? ⟨g, i, none⟩ = false := by
  obtain ⟨e, h⟩ := h
  simp [World.frozen?, h]
theorem Fs.alloc (w : World) (cs : Array Value) (e : TypeId) : Fs (w.alloc (.cells cs e)) w.heap.size cs.toList := ⟨e, by simpa using heap_alloc_new w (.cells cs e)⟩
theorem Fs.set {w : World} {g : Nat} {cs : List Value} (h : Fs w g cs) (i : Nat) (u : Value) : Fs (w.setCell ⟨g, i, none⟩ u) g (cs.set i u) := by
  obtain ⟨e, h⟩ := h
  refine ⟨e, ?_⟩
  simp [World.setCell, Array.getElem?_modify, h]

/-- The call owns the row v of one-cell values, all of whose blocks are in F. -/
structure Row (F : Nat → Prop) (w : World) (e : TypeId) (v : Value) (xs : List Value) : Prop where
  own : w.ownsRow 0 e 1 v xs.length xs
  inF : ∀ k, v.ownBlock = some k → F k
section row
variable {F G : Nat → Prop} {w w' : World} {e : TypeId} {v : Value} {xs : List Value}
theorem Row.mono (h : Row F w e v xs) (hs : ∀ k, F k → G k) : Row G w e v xs := ⟨h.own, fun k hk => hs k (h.inF k hk)⟩
theorem Row.sl (h : Row F w e v xs) : Sl w v xs := Sl.of_own h.own
theorem Row.nil (w : World) (e : TypeId) : Row F w e (.slice none 0 0) [] := ⟨own_nil w 0 e, fun k hk => by cases hk⟩
theorem Row.lt (h : Row F w e v xs) {k : Nat} (hk : v.ownBlock = some k) : k < w.heap.size := (h.own.lt k hk).2
theorem own_mod {base : Nat} (h : w.ownsRow base e 1 v xs.length xs) (hm : Mod F w w') (hd : ∀ k, v.ownBlock = some k → ¬ F k) : w'.ownsRow base e 1 v xs.length xs := by
  obtain ⟨hl, hn | ⟨g, cap, cur, hv, hg, hh, rest⟩⟩ := h
  · exact ⟨hl, .inl hn⟩
  · refine ⟨hl, .inr ⟨g, cap, cur, hv, hg, ?_, rest⟩⟩
    rw [hm.block g (Array.getElem?_eq_some_iff.1 hh).1 (hd g (by rw [hv]; rfl))]; exact hh
theorem Row.mod (h : Row F w e v xs) (hm : Mod G w w') (hd : ∀ k, F k → ¬ G k) : Row F w' e v xs := ⟨own_mod h.own hm fun k hk => hd k (h.inF k hk), h.inF⟩
theorem Row.ext (h : Row F w e v xs) (he : Ext w w') : Row F w' e v xs := ⟨own_ext h.own he, h.inF⟩
/-- What was owned from some block on, as a row. -/
theorem Row.of {base : Nat} (h : w.ownsRow base e 1 v xs.length xs) (hs : ∀ k, base ≤ k → k < w.heap.size → F k) : Row F w e v xs :=
  ⟨own_mono h (Nat.zero_le _), fun k hk => hs k (h.lt k hk).1 (h.lt k hk).2⟩
/-- Fewer of what is owned. -/
theorem own_take {base n : Nat} {g : Option Addr} {c : Nat} (h : w.ownsRow base e 1 v xs.length xs) (hv : v = .slice g xs.length c) (hn : n ≤ xs.length) :
    w.ownsRow base e 1 (.slice g n c) (xs.take n).length (xs.take n) := by
  have hl : (xs.take n).length = n := by simp; omega
  obtain ⟨_, hnil | ⟨g', cap, cur, hv', hb, hh, h1, h2, h3, h4⟩⟩ := h
  · obtain ⟨h0, h00⟩ := hnil
    rw [hv] at h0
    injection h0 with e1 e2 e3
    subst e1 e3
    have hxs : xs = [] := List.eq_nil_of_length_eq_zero h00
    subst hxs
    have hn0 : n = 0 := by simpa using hn
    subst hn0
    exact own_nil w base e
  · rw [hv] at hv'
    injection hv' with e1 e2 e3
    subst e1 e3
    refine ⟨by simp, .inr ⟨g', c, cur, by rw [hl], hb, hh, by rw [hl]; omega, h2, h3, ?_⟩⟩
    rw [hl, Nat.mul_one, ← h4, List.take_take, Nat.mul_one, Nat.min_eq_left hn]
end row
end Go.Proofs.Ytabbgnlabiakoaa
