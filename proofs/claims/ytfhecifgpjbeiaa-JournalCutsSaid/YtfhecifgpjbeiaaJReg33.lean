/- The states of a region that reads a disk's records, puts together a list of records, and holds the one against the other, in whichever order. -/
import Derived.Test.YtfhecifgpjbeiaaRegV
import Derived.Test.YtfhecifgpjbeiaaOwnW
import Derived.Test.YtfhecifgpjbeiaaJRf3
namespace Go.Proofs.Ytfhecifgpjbeiaa
open Go.RowKit

/-- The block that only an append to come writes to. -/
def priv33 (s : Nat → Value) (L : Nat → Prop) (k : Nat) : Prop := (L 2 ∧ ¬ L 6 ∧ (s 112).ownBlock = some k) ∨ (L 6 ∧ ¬ L 9 ∧ (s 116).ownBlock = some k)
structure I33 (W0 : World) (PA vw : Value) (wh g5 : Nat) (row : List Value) (T : List RecD) (r : RecD) (w : World) (s : Nat → Value) (L : Nat → Prop) : Prop where
  x : Ext W0 w
  o20 : s 20 = PA
  o8 : s 8 = vw
  o14 : s 14 = .int .i64 wh
  o5 : s 5 = .pointer (some ⟨g5, 0, none⟩)
  c0 : L 0 → s 110 = PA
  c3 : L 3 → s 113 = vw
  c4 : L 4 → s 114 = .int .i64 wh
  c5 : L 5 → Recs 5 RecR W0 (s 115) T
  c7 : L 7 → s 117 = .agg row.toArray
  c2 : L 2 → ¬ L 6 → OwnW W0 w (s 112) [] ∧ ∃ ad, s 112 = .slice (some ad) 0 0
  c6 : L 6 → ¬ L 9 → OwnW W0 w (s 116) T
  c8 : L 8 → ¬ L 9 → ∀ w'', Mod (priv33 s L) w w'' → SlS w'' (s 118) 5 [row]
  c9 : L 9 → OwnW W0 w (s 119) (T ++ [r])
  c1 : L 1 → ∀ w'', Mod (priv33 s L) w w'' → Recs 5 RecR w'' (s 111) (T ++ [r])
  c10 : L 10 → s 120 = .bool true
  c11 : L 11 → s 6 = .bool true
theorem stab33 {p : World → Prop} {X X' : Nat → Prop} {w w1 : World} (h : ∀ w'', Mod X w w'' → p w'') (hm : Mod X w w1) (hs : ∀ k, k < w.heap.size → X' k → X k) : ∀ w'', Mod X' w1 w'' → p w'' := fun w'' hk => h w'' (hm.trans hk hs)
section
variable {W0 : World} {PA vw : Value} {wh g5 : Nat} {row : List Value} {T : List RecD} {r : RecD} {w w1 : World} {s : Nat → Value} {L : Nat → Prop} {v : Value}
theorem I33.s0 (h : I33 W0 PA vw wh g5 row T r w s L) (he : Ext w w1) (hv : v = PA) : I33 W0 PA vw wh g5 row T r w1 (fun t => if t = 110 then v else s t) (fun j => j = 0 ∨ L j) := by
  have hx1 : Ext W0 w1 := h.x.trans he
  have hm : Mod (priv33 s L) w w1 := he.mod _
  have hs : ∀ k, k < w.heap.size → priv33 (fun t => if t = 110 then v else s t) (fun j => j = 0 ∨ L j) k → priv33 s L k := by
    intro k hk hp
    unfold priv33 at hp ⊢
    simpa using hp
  exact ⟨hx1,
    (by simpa using h.o20),
    (by simpa using h.o8),
    (by simpa using h.o14),
    (by simpa using h.o5),
    (fun _ => by simpa using hv),
    (fun hl => by simpa using h.c3 (by simpa using hl)),
    (fun hl => by simpa using h.c4 (by simpa using hl)),
    (fun hl => by simpa using h.c5 (by simpa using hl)),
    (fun hl => by simpa using h.c7 (by simpa using hl)),
    (fun hl hn => by obtain ⟨h1, h2⟩ := h.c2 (by simpa using hl) (by simpa using hn); exact ⟨by simpa using h1.ext he, by simpa using h2⟩),
    (fun hl hn => by simpa using (h.c6 (by simpa using hl) (by simpa using hn)).ext he),
    (fun hl hn w'' hk => by have := stab33 (h.c8 (by simpa using hl) (by simpa using hn)) hm hs w'' hk; simpa using this),
    (fun hl => by simpa using (h.c9 (by simpa using hl)).ext he),
    (fun hl w'' hk => by have := stab33 (h.c1 (by simpa using hl)) hm hs w'' hk; simpa using this),
    (fun hl => by simpa using h.c10 (by simpa using hl)),
    (fun hl => by simpa using h.c11 (by simpa using hl))⟩
theorem I33.s1 (h : I33 W0 PA vw wh g5 row T r w s L) (he : Ext w w1) (hv : ∀ w'', Mod (priv33 s L) w1 w'' → Recs 5 RecR w'' v (T ++ [r])) : I33 W0 PA vw wh g5 row T r w1 (fun t => if t = 111 then v else s t) (fun j => j = 1 ∨ L j) := by
  have hx1 : Ext W0 w1 := h.x.trans he
  have hm : Mod (priv33 s L) w w1 := he.mod _
  have hs : ∀ k, k < w.heap.size → priv33 (fun t => if t = 111 then v else s t) (fun j => j = 1 ∨ L j) k → priv33 s L k := by
    intro k hk hp
    unfold priv33 at hp ⊢
    simpa using hp
  exact ⟨hx1,
    (by simpa using h.o20),
    (by simpa using h.o8),
    (by simpa using h.o14),
    (by simpa using h.o5),
    (fun hl => by simpa using h.c0 (by simpa using hl)),
    (fun hl => by simpa using h.c3 (by simpa using hl)),
    (fun hl => by simpa using h.c4 (by simpa using hl)),
    (fun hl => by simpa using h.c5 (by simpa using hl)),
    (fun hl => by simpa using h.c7 (by simpa using hl)),
    (fun hl hn => by obtain ⟨h1, h2⟩ := h.c2 (by simpa using hl) (by simpa using hn); exact ⟨by simpa using h1.ext he, by simpa using h2⟩),
    (fun hl hn => by simpa using (h.c6 (by simpa using hl) (by simpa using hn)).ext he),
    (fun hl hn w'' hk => by have := stab33 (h.c8 (by simpa using hl) (by simpa using hn)) hm hs w'' hk; simpa using this),
    (fun hl => by simpa using (h.c9 (by simpa using hl)).ext he),
    (fun _ w'' hk => by have := hv w'' ((Mod.refl _ w1).trans hk fun k hk2 hp => (by unfold priv33 at hp ⊢; simpa using hp)); simpa using this),
    (fun hl => by simpa using h.c10 (by simpa using hl)),
    (fun hl => by simpa using h.c11 (by simpa using hl))⟩
theorem I33.s2 (h : I33 W0 PA vw wh g5 row T r w s L) (he : Ext w w1) (hv : OwnW W0 w1 v [] ∧ ∃ ad, v = .slice (some ad) 0 0) (hnew : ∀ k, v.ownBlock = some k → w.heap.size ≤ k) (n6 : ¬ L 6) : I33 W0 PA vw wh g5 row T r w1 (fun t => if t = 112 then v else s t) (fun j => j = 2 ∨ L j) := by
  have hx1 : Ext W0 w1 := h.x.trans he
  have hm : Mod (priv33 s L) w w1 := he.mod _
  have hs : ∀ k, k < w.heap.size → priv33 (fun t => if t = 112 then v else s t) (fun j => j = 2 ∨ L j) k → priv33 s L k := by
    intro k hk hp
    rcases hp with ⟨_, _, h3⟩ | ⟨h1, h2, h3⟩
    · have : v.ownBlock = some k := by simpa using h3
      have := hnew k this; omega
    · exact absurd (by simpa using h1) n6
  exact ⟨hx1,
    (by simpa using h.o20),
    (by simpa using h.o8),
    (by simpa using h.o14),
    (by simpa using h.o5),
    (fun hl => by simpa using h.c0 (by simpa using hl)),
    (fun hl => by simpa using h.c3 (by simpa using hl)),
    (fun hl => by simpa using h.c4 (by simpa using hl)),
    (fun hl => by simpa using h.c5 (by simpa using hl)),
    (fun hl => by simpa using h.c7 (by simpa using hl)),
    (fun _ _ => by simpa using hv),
    (fun hl hn => by simpa using (h.c6 (by simpa using hl) (by simpa using hn)).ext he),
    (fun hl hn w'' hk => by have := stab33 (h.c8 (by simpa using hl) (by simpa using hn)) hm hs w'' hk; simpa using this),
    (fun hl => by simpa using (h.c9 (by simpa using hl)).ext he),
    (fun hl w'' hk => by have := stab33 (h.c1 (by simpa using hl)) hm hs w'' hk; simpa using this),
    (fun hl => by simpa using h.c10 (by simpa using hl)),
    (fun hl => by simpa using h.c11 (by simpa using hl))⟩
theorem I33.s3 (h : I33 W0 PA vw wh g5 row T r w s L) (he : Ext w w1) (hv : v = vw) : I33 W0 PA vw wh g5 row T r w1 (fun t => if t = 113 then v else s t) (fun j => j = 3 ∨ L j) := by
  have hx1 : Ext W0 w1 := h.x.trans he
  have hm : Mod (priv33 s L) w w1 := he.mod _
  have hs : ∀ k, k < w.heap.size → priv33 (fun t => if t = 113 then v else s t) (fun j => j = 3 ∨ L j) k → priv33 s L k := by
    intro k hk hp
    unfold priv33 at hp ⊢
    simpa using hp
  exact ⟨hx1,
    (by simpa using h.o20),
    (by simpa using h.o8),
    (by simpa using h.o14),
    (by simpa using h.o5),
    (fun hl => by simpa using h.c0 (by simpa using hl)),
    (fun _ => by simpa using hv),
    (fun hl => by simpa using h.c4 (by simpa using hl)),
    (fun hl => by simpa using h.c5 (by simpa using hl)),
    (fun hl => by simpa using h.c7 (by simpa using hl)),
    (fun hl hn => by obtain ⟨h1, h2⟩ := h.c2 (by simpa using hl) (by simpa using hn); exact ⟨by simpa using h1.ext he, by simpa using h2⟩),
    (fun hl hn => by simpa using (h.c6 (by simpa using hl) (by simpa using hn)).ext he),
    (fun hl hn w'' hk => by have := stab33 (h.c8 (by simpa using hl) (by simpa using hn)) hm hs w'' hk; simpa using this),
    (fun hl => by simpa using (h.c9 (by simpa using hl)).ext he),
    (fun hl w'' hk => by have := stab33 (h.c1 (by simpa using hl)) hm hs w'' hk; simpa using this),
    (fun hl => by simpa using h.c10 (by simpa using hl)),
    (fun hl => by simpa using h.c11 (by simpa using hl))⟩
theorem I33.s4 (h : I33 W0 PA vw wh g5 row T r w s L) (he : Ext w w1) (hv : v = .int .i64 wh) : I33 W0 PA vw wh g5 row T r w1 (fun t => if t = 114 then v else s t) (fun j => j = 4 ∨ L j) := by
  have hx1 : Ext W0 w1 := h.x.trans he
  have hm : Mod (priv33 s L) w w1 := he.mod _
  have hs : ∀ k, k < w.heap.size → priv33 (fun t => if t = 114 then v else s t) (fun j => j = 4 ∨ L j) k → priv33 s L k := by
    intro k hk hp
    unfold priv33 at hp ⊢
    simpa using hp
  exact ⟨hx1,
    (by simpa using h.o20),
    (by simpa using h.o8),
    (by simpa using h.o14),
    (by simpa using h.o5),
    (fun hl => by simpa using h.c0 (by simpa using hl)),
    (fun hl => by simpa using h.c3 (by simpa using hl)),
    (fun _ => by simpa using hv),
    (fun hl => by simpa using h.c5 (by simpa using hl)),
    (fun hl => by simpa using h.c7 (by simpa using hl)),
    (fun hl hn => by obtain ⟨h1, h2⟩ := h.c2 (by simpa using hl) (by simpa using hn); exact ⟨by simpa using h1.ext he, by simpa using h2⟩),
    (fun hl hn => by simpa using (h.c6 (by simpa using hl) (by simpa using hn)).ext he),
    (fun hl hn w'' hk => by have := stab33 (h.c8 (by simpa using hl) (by simpa using hn)) hm hs w'' hk; simpa using this),
    (fun hl => by simpa using (h.c9 (by simpa using hl)).ext he),
    (fun hl w'' hk => by have := stab33 (h.c1 (by simpa using hl)) hm hs w'' hk; simpa using this),
    (fun hl => by simpa using h.c10 (by simpa using hl)),
    (fun hl => by simpa using h.c11 (by simpa using hl))⟩
theorem I33.s5 (h : I33 W0 PA vw wh g5 row T r w s L) (he : Ext w w1) (hv : Recs 5 RecR W0 v T) : I33 W0 PA vw wh g5 row T r w1 (fun t => if t = 115 then v else s t) (fun j => j = 5 ∨ L j) := by
  have hx1 : Ext W0 w1 := h.x.trans he
  have hm : Mod (priv33 s L) w w1 := he.mod _
  have hs : ∀ k, k < w.heap.size → priv33 (fun t => if t = 115 then v else s t) (fun j => j = 5 ∨ L j) k → priv33 s L k := by
    intro k hk hp
    unfold priv33 at hp ⊢
    simpa using hp
  exact ⟨hx1,
    (by simpa using h.o20),
    (by simpa using h.o8),
    (by simpa using h.o14),
    (by simpa using h.o5),
    (fun hl => by simpa using h.c0 (by simpa using hl)),
    (fun hl => by simpa using h.c3 (by simpa using hl)),
    (fun hl => by simpa using h.c4 (by simpa using hl)),
    (fun _ => by simpa using hv),
    (fun hl => by simpa using h.c7 (by simpa using hl)),
    (fun hl hn => by obtain ⟨h1, h2⟩ := h.c2 (by simpa using hl) (by simpa using hn); exact ⟨by simpa using h1.ext he, by simpa using h2⟩),
    (fun hl hn => by simpa using (h.c6 (by simpa using hl) (by simpa using hn)).ext he),
    (fun hl hn w'' hk => by have := stab33 (h.c8 (by simpa using hl) (by simpa using hn)) hm hs w'' hk; simpa using this),
    (fun hl => by simpa using (h.c9 (by simpa using hl)).ext he),
    (fun hl w'' hk => by have := stab33 (h.c1 (by simpa using hl)) hm hs w'' hk; simpa using this),
    (fun hl => by simpa using h.c10 (by simpa using hl)),
    (fun hl => by simpa using h.c11 (by simpa using hl))⟩
theorem I33.s6 (h : I33 W0 PA vw wh g5 row T r w s L) (hm : Mod (priv33 s L) w w1) (hx1 : Ext W0 w1) (hv : OwnW W0 w1 v T) (hnew : ∀ k, k < w.heap.size → v.ownBlock = some k → (s 112).ownBlock = some k) (l2 : L 2) (n6 : ¬ L 6) (n9 : ¬ L 9) : I33 W0 PA vw wh g5 row T r w1 (fun t => if t = 116 then v else s t) (fun j => j = 6 ∨ L j) := by
  have hs : ∀ k, k < w.heap.size → priv33 (fun t => if t = 116 then v else s t) (fun j => j = 6 ∨ L j) k → priv33 s L k := by
    intro k hk hp
    rcases hp with ⟨_, h2, _⟩ | ⟨_, _, h3⟩
    · exact absurd (Or.inl rfl) h2
    · exact .inl ⟨l2, n6, hnew k hk (by simpa using h3)⟩
  exact ⟨hx1,
    (by simpa using h.o20),
    (by simpa using h.o8),
    (by simpa using h.o14),
    (by simpa using h.o5),
    (fun hl => by simpa using h.c0 (by simpa using hl)),
    (fun hl => by simpa using h.c3 (by simpa using hl)),
    (fun hl => by simpa using h.c4 (by simpa using hl)),
    (fun hl => by simpa using h.c5 (by simpa using hl)),
    (fun hl => by simpa using h.c7 (by simpa using hl)),
    (fun _ hn => absurd (Or.inl rfl) hn),
    (fun _ _ => by simpa using hv),
    (fun hl _ w'' hk => by have := stab33 (h.c8 (by simpa using hl) n9) hm hs w'' hk; simpa using this),
    (fun hl => absurd (by simpa using hl) n9),
    (fun hl w'' hk => by have := stab33 (h.c1 (by simpa using hl)) hm hs w'' hk; simpa using this),
    (fun hl => by simpa using h.c10 (by simpa using hl)),
    (fun hl => by simpa using h.c11 (by simpa using hl))⟩
theorem I33.s7 (h : I33 W0 PA vw wh g5 row T r w s L) (he : Ext w w1) (hv : v = .agg row.toArray) : I33 W0 PA vw wh g5 row T r w1 (fun t => if t = 117 then v else s t) (fun j => j = 7 ∨ L j) := by
  have hx1 : Ext W0 w1 := h.x.trans he
  have hm : Mod (priv33 s L) w w1 := he.mod _
  have hs : ∀ k, k < w.heap.size → priv33 (fun t => if t = 117 then v else s t) (fun j => j = 7 ∨ L j) k → priv33 s L k := by
    intro k hk hp
    unfold priv33 at hp ⊢
    simpa using hp
  exact ⟨hx1,
    (by simpa using h.o20),
    (by simpa using h.o8),
    (by simpa using h.o14),
    (by simpa using h.o5),
    (fun hl => by simpa using h.c0 (by simpa using hl)),
    (fun hl => by simpa using h.c3 (by simpa using hl)),
    (fun hl => by simpa using h.c4 (by simpa using hl)),
    (fun hl => by simpa using h.c5 (by simpa using hl)),
    (fun _ => by simpa using hv),
    (fun hl hn => by obtain ⟨h1, h2⟩ := h.c2 (by simpa using hl) (by simpa using hn); exact ⟨by simpa using h1.ext he, by simpa using h2⟩),
    (fun hl hn => by simpa using (h.c6 (by simpa using hl) (by simpa using hn)).ext he),
    (fun hl hn w'' hk => by have := stab33 (h.c8 (by simpa using hl) (by simpa using hn)) hm hs w'' hk; simpa using this),
    (fun hl => by simpa using (h.c9 (by simpa using hl)).ext he),
    (fun hl w'' hk => by have := stab33 (h.c1 (by simpa using hl)) hm hs w'' hk; simpa using this),
    (fun hl => by simpa using h.c10 (by simpa using hl)),
    (fun hl => by simpa using h.c11 (by simpa using hl))⟩
theorem I33.s8 (h : I33 W0 PA vw wh g5 row T r w s L) (he : Ext w w1) (hv : ∀ w'', Mod (priv33 s L) w1 w'' → SlS w'' v 5 [row]) : I33 W0 PA vw wh g5 row T r w1 (fun t => if t = 118 then v else s t) (fun j => j = 8 ∨ L j) := by
  have hx1 : Ext W0 w1 := h.x.trans he
  have hm : Mod (priv33 s L) w w1 := he.mod _
  have hs : ∀ k, k < w.heap.size → priv33 (fun t => if t = 118 then v else s t) (fun j => j = 8 ∨ L j) k → priv33 s L k := by
    intro k hk hp
    unfold priv33 at hp ⊢
    simpa using hp
  exact ⟨hx1,
    (by simpa using h.o20),
    (by simpa using h.o8),
    (by simpa using h.o14),
    (by simpa using h.o5),
    (fun hl => by simpa using h.c0 (by simpa using hl)),
    (fun hl => by simpa using h.c3 (by simpa using hl)),
    (fun hl => by simpa using h.c4 (by simpa using hl)),
    (fun hl => by simpa using h.c5 (by simpa using hl)),
    (fun hl => by simpa using h.c7 (by simpa using hl)),
    (fun hl hn => by obtain ⟨h1, h2⟩ := h.c2 (by simpa using hl) (by simpa using hn); exact ⟨by simpa using h1.ext he, by simpa using h2⟩),
    (fun hl hn => by simpa using (h.c6 (by simpa using hl) (by simpa using hn)).ext he),
    (fun _ _ w'' hk => by have := hv w'' ((Mod.refl _ w1).trans hk fun k hk2 hp => (by unfold priv33 at hp ⊢; simpa using hp)); simpa using this),
    (fun hl => by simpa using (h.c9 (by simpa using hl)).ext he),
    (fun hl w'' hk => by have := stab33 (h.c1 (by simpa using hl)) hm hs w'' hk; simpa using this),
    (fun hl => by simpa using h.c10 (by simpa using hl)),
    (fun hl => by simpa using h.c11 (by simpa using hl))⟩
theorem I33.s9 (h : I33 W0 PA vw wh g5 row T r w s L) (hm : Mod (priv33 s L) w w1) (hx1 : Ext W0 w1) (hv : OwnW W0 w1 v (T ++ [r])) (l6 : L 6) : I33 W0 PA vw wh g5 row T r w1 (fun t => if t = 119 then v else s t) (fun j => j = 9 ∨ L j) := by
  have hs : ∀ k, k < w.heap.size → priv33 (fun t => if t = 119 then v else s t) (fun j => j = 9 ∨ L j) k → priv33 s L k := by
    intro k hk hp
    rcases hp with ⟨_, h2, _⟩ | ⟨_, h2, _⟩
    · exact absurd (Or.inr l6) h2
    · exact absurd (Or.inl rfl) h2
  exact ⟨hx1,
    (by simpa using h.o20),
    (by simpa using h.o8),
    (by simpa using h.o14),
    (by simpa using h.o5),
    (fun hl => by simpa using h.c0 (by simpa using hl)),
    (fun hl => by simpa using h.c3 (by simpa using hl)),
    (fun hl => by simpa using h.c4 (by simpa using hl)),
    (fun hl => by simpa using h.c5 (by simpa using hl)),
    (fun hl => by simpa using h.c7 (by simpa using hl)),
    (fun _ hn => absurd (Or.inr l6) hn),
    (fun _ hn => absurd (Or.inl rfl) hn),
    (fun _ hn => absurd (Or.inl rfl) hn),
    (fun _ => by simpa using hv),
    (fun hl w'' hk => by have := stab33 (h.c1 (by simpa using hl)) hm hs w'' hk; simpa using this),
    (fun hl => by simpa using h.c10 (by simpa using hl)),
    (fun hl => by simpa using h.c11 (by simpa using hl))⟩
theorem I33.s10 (h : I33 W0 PA vw wh g5 row T r w s L) (he : Ext w w1) (hv : v = .bool true) : I33 W0 PA vw wh g5 row T r w1 (fun t => if t = 120 then v else s t) (fun j => j = 10 ∨ L j) := by
  have hx1 : Ext W0 w1 := h.x.trans he
  have hm : Mod (priv33 s L) w w1 := he.mod _
  have hs : ∀ k, k < w.heap.size → priv33 (fun t => if t = 120 then v else s t) (fun j => j = 10 ∨ L j) k → priv33 s L k := by
    intro k hk hp
    unfold priv33 at hp ⊢
    simpa using hp
  exact ⟨hx1,
    (by simpa using h.o20),
    (by simpa using h.o8),
    (by simpa using h.o14),
    (by simpa using h.o5),
    (fun hl => by simpa using h.c0 (by simpa using hl)),
    (fun hl => by simpa using h.c3 (by simpa using hl)),
    (fun hl => by simpa using h.c4 (by simpa using hl)),
    (fun hl => by simpa using h.c5 (by simpa using hl)),
    (fun hl => by simpa using h.c7 (by simpa using hl)),
    (fun hl hn => by obtain ⟨h1, h2⟩ := h.c2 (by simpa using hl) (by simpa using hn); exact ⟨by simpa using h1.ext he, by simpa using h2⟩),
    (fun hl hn => by simpa using (h.c6 (by simpa using hl) (by simpa using hn)).ext he),
    (fun hl hn w'' hk => by have := stab33 (h.c8 (by simpa using hl) (by simpa using hn)) hm hs w'' hk; simpa using this),
    (fun hl => by simpa using (h.c9 (by simpa using hl)).ext he),
    (fun hl w'' hk => by have := stab33 (h.c1 (by simpa using hl)) hm hs w'' hk; simpa using this),
    (fun _ => by simpa using hv),
    (fun hl => by simpa using h.c11 (by simpa using hl))⟩
theorem I33.s11 (h : I33 W0 PA vw wh g5 row T r w s L) (he : Ext w w1) (hv : v = .bool true) : I33 W0 PA vw wh g5 row T r w1 (fun t => if t = 6 then v else s t) (fun j => j = 11 ∨ L j) := by
  have hx1 : Ext W0 w1 := h.x.trans he
  have hm : Mod (priv33 s L) w w1 := he.mod _
  have hs : ∀ k, k < w.heap.size → priv33 (fun t => if t = 6 then v else s t) (fun j => j = 11 ∨ L j) k → priv33 s L k := by
    intro k hk hp
    unfold priv33 at hp ⊢
    simpa using hp
  exact ⟨hx1,
    (by simpa using h.o20),
    (by simpa using h.o8),
    (by simpa using h.o14),
    (by simpa using h.o5),
    (fun hl => by simpa using h.c0 (by simpa using hl)),
    (fun hl => by simpa using h.c3 (by simpa using hl)),
    (fun hl => by simpa using h.c4 (by simpa using hl)),
    (fun hl => by simpa using h.c5 (by simpa using hl)),
    (fun hl => by simpa using h.c7 (by simpa using hl)),
    (fun hl hn => by obtain ⟨h1, h2⟩ := h.c2 (by simpa using hl) (by simpa using hn); exact ⟨by simpa using h1.ext he, by simpa using h2⟩),
    (fun hl hn => by simpa using (h.c6 (by simpa using hl) (by simpa using hn)).ext he),
    (fun hl hn w'' hk => by have := stab33 (h.c8 (by simpa using hl) (by simpa using hn)) hm hs w'' hk; simpa using this),
    (fun hl => by simpa using (h.c9 (by simpa using hl)).ext he),
    (fun hl w'' hk => by have := stab33 (h.c1 (by simpa using hl)) hm hs w'' hk; simpa using this),
    (fun hl => by simpa using h.c10 (by simpa using hl)),
    (fun _ => by simpa using hv)⟩
theorem I33.priv_lt (h : I33 W0 PA vw wh g5 row T r w s L) {k : Nat} (hk : priv33 s L k) : k < w.heap.size := by
  rcases hk with ⟨h1, h2, h3⟩ | ⟨h1, h2, h3⟩
  · exact (h.c2 h1 h2).1.lt h3
  · exact (h.c6 h1 h2).lt h3
theorem I33.fin {N d i : Nat} {listed : Array Bool} {a : Act} {v : Value} (hd : d < a.tmps.size) (hi : i < listed.size) (hsz : a.tmps.size = N) (hdf : a.defers = [])
    (h : I33 W0 PA vw wh g5 row T r w1 (fun t => if t = d then v else a.tmps.getD t undef) (fun j => j = i ∨ listed[j]? = some true)) :
    (a.put (some d) v).tmps.size = N ∧ (a.put (some d) v).defers = [] ∧ I33 W0 PA vw wh g5 row T r w1 (fun t => (a.put (some d) v).tmps.getD t undef) (fun j => (listed.setIfInBounds i true)[j]? = some true) := by
  refine ⟨by rw [Act.put_size]; exact hsz, by rw [Act.put_defers']; exact hdf, ?_⟩
  rw [put_slots _ _ _ hd, put_listed _ _ hi]; exact h
theorem not_listed (m j : Nat) : ¬ (Array.replicate m false)[j]? = some true := by
  rw [Array.getElem?_replicate]; split <;> simp
end
end Go.Proofs.Ytfhecifgpjbeiaa
