/- The program's tree and the document's, beside a block that the law writes. -/
import Derived.Test.YtdacclcaopmalaaTLx
namespace Go.Proofs.Ytdacclcaopmalaa
set_option maxRecDepth 100000
open Go.RowKit Go.ChangeShapes Go.WideShapes Go.ChangeAt

/-- The program's tree in G, the document's in g5, beside what the law itself writes (X). -/
structure Ga (W w : World) (G X : Nat → Prop) (p g5 : Nat) (vk vw : Value) (K V Kd Vd : List BlkD) : Prop where
  tr : TrW G w p K V
  out : Out W G w
  lt : ∀ k, G k → k < w.heap.size
  n5 : ¬ G g5
  h5 : W.heap.size ≤ g5
  f5 : Fs w g5 [vk, vw]
  kk : KP W (fun k => ¬ G k ∧ ¬ X k ∧ k ≠ g5) w vk Kd
  kv : KP W (fun k => ¬ G k ∧ ¬ X k ∧ k ≠ g5) w vw Vd
  gx : ∀ k, X k → ¬ G k
  x5 : ¬ X g5
  xl : ∀ k, X k → k < w.heap.size
  xW : ∀ k, X k → W.heap.size ≤ k
section
variable {W w w' : World} {G G' X X' : Nat → Prop} {p g5 : Nat} {vk vw vk1 vw1 : Value} {K V Kd Vd K1 V1 : List BlkD}
theorem Ga.extend (h : Ga W w G X p g5 vk vw K V Kd Vd) (he : Ext w w') : Ga W w' G X p g5 vk vw K V Kd Vd :=
  ⟨h.tr.ext he, h.out.extend he, fun k hk => Nat.lt_of_lt_of_le (h.lt k hk) he.size, h.n5, h.h5, h.f5.ext he, h.kk.ext he, h.kv.ext he, h.gx, h.x5, fun k hk => Nat.lt_of_lt_of_le (h.xl k hk) he.size, h.xW⟩
theorem Ga.add (h : Ga W w G X p g5 vk vw K V Kd Vd) (hU : Upd G G' w w') (hT : TrW G' w' p K1 V1) : Ga W w' G' X p g5 vk vw K1 V1 Kd Vd := by
  have l5 := h.f5.lt; have hs := hU.size
  have nn : ∀ k, k < w.heap.size → ¬ G k → ¬ G' k := fun k hk hn h' => (hU.sub k h').elim hn fun e => by omega
  have hse : ∀ k, k < w.heap.size → (¬ G k ∧ ¬ X k ∧ k ≠ g5) → ¬ G k ∧ (¬ G' k ∧ ¬ X k ∧ k ≠ g5) := fun k hk ⟨a, b, c⟩ => ⟨a, nn k hk a, b, c⟩
  exact ⟨hT, h.out.upd hU, fun k hk => (hU.sub k hk).elim (fun e => Nat.lt_of_lt_of_le (h.lt k e) hs) fun e => e.2, nn _ l5 h.n5, h.h5, h.f5.mod hU.mod h.n5, h.kk.swap hU.mod hse, h.kv.swap hU.mod hse, fun k hk => nn k (h.xl k hk) (h.gx k hk), h.x5, fun k hk => Nat.lt_of_lt_of_le (h.xl k hk) hs, h.xW⟩
theorem Ga.next {v1 : Value} {l1 : List BlkD} {w0 : World} (h : Ga W w0 G X p g5 vk vw K V Kd Vd) (k1 : KP W (fun k => (¬ G k ∧ ¬ X k ∧ k ≠ g5) ∨ w0.heap.size ≤ k) w v1 l1) : KP W (fun k => ¬ G k ∧ ¬ X k ∧ k ≠ g5) w v1 l1 := by
  have l5 := h.f5.lt
  exact k1.mono fun k _ hs => hs.elim id fun e => ⟨fun hg => by have := h.lt k hg; omega, fun hx => by have := h.xl k hx; omega, by omega⟩
theorem Ga.store (h : Ga W w G X p g5 vk vw K V Kd Vd) (k1 : KP W (fun k => ¬ G k ∧ ¬ X k ∧ k ≠ g5) w vk1 K1) (k2 : KP W (fun k => ¬ G k ∧ ¬ X k ∧ k ≠ g5) w vw1 V1) (hm : Mod (fun k => k = g5) w w') (f : Fs w' g5 [vk1, vw1]) : Ga W w' G X p g5 vk1 vw1 K V K1 V1 :=
  ⟨h.tr.mod hm fun k hk e => h.n5 (e ▸ hk), h.out.other hm fun k hk => by subst hk; exact h.h5, fun k hk => Nat.lt_of_lt_of_le (h.lt k hk) hm.size, h.n5, h.h5, f, k1.mod hm fun k _ hs => hs.2.2, k2.mod hm fun k _ hs => hs.2.2, h.gx, h.x5, fun k hk => Nat.lt_of_lt_of_le (h.xl k hk) hm.size, h.xW⟩
/-- What the law writes turns: neither tree does. -/
theorem Ga.own (h : Ga W w G X p g5 vk vw K V Kd Vd) (hm : Mod X w w') : Ga W w' G X p g5 vk vw K V Kd Vd :=
  ⟨h.tr.mod hm fun k hk hx => h.gx k hx hk, h.out.other hm h.xW, fun k hk => Nat.lt_of_lt_of_le (h.lt k hk) hm.size, h.n5, h.h5, h.f5.mod hm h.x5, h.kk.mod hm fun k _ hs => hs.2.1, h.kv.mod hm fun k _ hs => hs.2.1, h.gx, h.x5, fun k hk => Nat.lt_of_lt_of_le (h.xl k hk) hm.size, h.xW⟩
/-- What was made since is what the law writes. -/
theorem Ga.take (h : Ga W w G X p g5 vk vw K V Kd Vd) (he : Ext w w') (hx : ∀ k, X' k → w.heap.size ≤ k ∧ k < w'.heap.size) : Ga W w' G X' p g5 vk vw K V Kd Vd := by
  have l5 := h.f5.lt; have hs := h.out.ext.size
  have hse : ∀ k, k < w.heap.size → (¬ G k ∧ ¬ X k ∧ k ≠ g5) → ¬ G k ∧ ¬ X' k ∧ k ≠ g5 := fun k hk ⟨a, _, c⟩ => ⟨a, fun e => by have := (hx k e).1; omega, c⟩
  exact ⟨h.tr.ext he, h.out.extend he, fun k hk => Nat.lt_of_lt_of_le (h.lt k hk) he.size, h.n5, h.h5, h.f5.ext he, (h.kk.mono hse).ext he, (h.kv.mono hse).ext he, fun k hk hg => by have := (hx k hk).1; have := h.lt k hg; omega, fun e => by have := (hx _ e).1; omega, fun k hk => (hx k hk).2, fun k hk => by have := (hx k hk).1; omega⟩
theorem Ga.start {w0 w1 : World} (hX : Ext W w0) (hT : TrW G w1 p K V) (hx : Ext w0 w1) (hG : ∀ k, G k → w0.heap.size ≤ k) (h5 : w1.heap.size ≤ g5) (hx2 : Ext w1 w) (f5 : Fs w g5 zero2) : ∃ G' : Nat → Prop, Ga W w G' (fun _ => False) p g5 (.slice none 0 0) (.slice none 0 0) K V [] [] := by
  have s0 := hX.size; have s1 := hx.size
  have nil : ∀ (S : Nat → Prop), KP W S w (.slice none 0 0) [] := fun S => ⟨[], ⟨none, 0, rfl, Nat.le_refl _, by unfold maxLen; omega, fun k row hk => by simp at hk⟩, ⟨rfl, fun k row d hk => by simp at hk⟩, fun hr => absurd rfl hr⟩
  refine ⟨_, hT.trim.ext hx2, ⟨(hX.trans hx).trans hx2, fun k hk => ?_⟩, fun k hk => Nat.lt_of_lt_of_le hk.2 hx2.size, fun hk => ?_, by omega, f5, nil _, nil _, fun _ h => h.elim, id, fun _ h => h.elim, fun _ h => h.elim⟩
  · have := hG k hk.1; omega
  · have := hk.2; omega
end
end Go.Proofs.Ytdacclcaopmalaa
