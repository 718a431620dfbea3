/- The document's tree beside the program's: both grown from the same blocks. -/
import Derived.Test.YtdacclcaopmalaaTDh
namespace Go.Proofs.Ytdacclcaopmalaa
set_option maxRecDepth 100000
open Go.RowKit Go.ChangeShapes Go.WideShapes Go.ChangeAt

theorem ret_tc {P : Program} {t : TypeId} {n : Nat} {zs : List Value} {w : World} (E : St P t n zs) {fn : Func} {s s' g : Nat} {cs : List Value} {tmps : Array Value} {v : Value} (hrs : fn.results = #[.tmp s', .cell s t]) (hp : tmps.getD s undef = .pointer (some ⟨g, 0, none⟩)) (hv : tmps.getD s' undef = v) (h : Fs w g cs) (hl : cs.length = n) :
    (results fn tmps).run P w = .ok (.tuple #[v, .agg cs.toArray]) w := by
  have hr := run_loadVar_agg E h hl
  rw [Array.getD_eq_getD_getElem?] at hp hv
  simp only [results, hrs]
  simp [hp, hv, asAddr, hr]
theorem Add_r8 {G : Nat → Prop} {w : World} {p : Nat} {K V K2 V2 : List BlkD} {b : BlkD} {u : Value} {Ln : List Int} {ok : Bool} (hR : TrS.add ⟨K, V⟩ b = (⟨K2, V2⟩, Ln, ok)) (h00 : TrW G w p K V) (hV : V.length ≤ 16) (hu0 : Recs 2 TxR w u b.txs) (hraw : b.Raw) :
    Calls Try.prog 25 #[.pointer (some ⟨p, 0, none⟩), .agg #[.int .i64 b.slot, .int .i64 b.miner, .int .i64 b.var, .int .i64 b.parent, u]] w fun e w' => ∃ (v' : Value) (G' : Nat → Prop), e = .returned (.tuple #[v', .bool ok]) ∧ OwnI w.heap.size w' v' Ln ∧ TrW G' w' p K2 V2 ∧ Upd G G' w w' := by
  have h := Add_any h00 hV hu0 hraw
  rw [hR] at h; exact h
/-- The program's tree, and the document's in g5, in blocks of their own. -/
structure Gn (W w : World) (G : Nat → Prop) (p g3 g5 : Nat) (vk vw : Value) (K V Kd Vd : List BlkD) : Prop where
  tr : TrW G w p K V
  out : Out W G w
  lt : ∀ k, G k → k < w.heap.size
  n3 : ¬ G g3
  n5 : ¬ G g5
  n35 : g3 ≠ g5
  h3 : W.heap.size ≤ g3
  h5 : W.heap.size ≤ g5
  f3 : Fs w g3 zero2
  f5 : Fs w g5 [vk, vw]
  kk : KP W (fun k => ¬ G k ∧ k ≠ g3 ∧ k ≠ g5) w vk Kd
  kv : KP W (fun k => ¬ G k ∧ k ≠ g3 ∧ k ≠ g5) w vw Vd
section
variable {W w w' : World} {G G' : Nat → Prop} {p g3 g5 : Nat} {vk vw vk1 vw1 : Value} {K V Kd Vd K1 V1 : List BlkD}
theorem Gn.extend (h : Gn W w G p g3 g5 vk vw K V Kd Vd) (he : Ext w w') : Gn W w' G p g3 g5 vk vw K V Kd Vd :=
  ⟨h.tr.ext he, h.out.extend he, fun k hk => Nat.lt_of_lt_of_le (h.lt k hk) he.size, h.n3, h.n5, h.n35, h.h3, h.h5, h.f3.ext he, h.f5.ext he, h.kk.ext he, h.kv.ext he⟩
theorem Gn.add (h : Gn W w G p g3 g5 vk vw K V Kd Vd) (hU : Upd G G' w w') (hT : TrW G' w' p K1 V1) : Gn W w' G' p g3 g5 vk vw K1 V1 Kd Vd := by
  have l3 := h.f3.lt; have l5 := h.f5.lt; have hs := hU.size
  have nn : ∀ k, k < w.heap.size → ¬ G k → ¬ G' k := fun k hk hn h' => (hU.sub k h').elim hn fun e => by omega
  have hse : ∀ k, k < w.heap.size → (¬ G k ∧ k ≠ g3 ∧ k ≠ g5) → ¬ G k ∧ (¬ G' k ∧ k ≠ g3 ∧ k ≠ g5) := fun k hk ⟨a, b, c⟩ => ⟨a, nn k hk a, b, c⟩
  exact ⟨hT, h.out.upd hU, fun k hk => (hU.sub k hk).elim (fun e => Nat.lt_of_lt_of_le (h.lt k e) hs) fun e => e.2, nn _ l3 h.n3, nn _ l5 h.n5, h.n35, h.h3, h.h5, h.f3.mod hU.mod h.n3, h.f5.mod hU.mod h.n5, h.kk.swap hU.mod hse, h.kv.swap hU.mod hse⟩
theorem Gn.next {v1 : Value} {l1 : List BlkD} {w0 : World} (h : Gn W w0 G p g3 g5 vk vw K V Kd Vd) (k1 : KP W (fun k => (¬ G k ∧ k ≠ g3 ∧ k ≠ g5) ∨ w0.heap.size ≤ k) w v1 l1) : KP W (fun k => ¬ G k ∧ k ≠ g3 ∧ k ≠ g5) w v1 l1 := by
  have l3 := h.f3.lt; have l5 := h.f5.lt
  exact k1.mono fun k _ hs => hs.elim id fun e => ⟨fun hg => by have := h.lt k hg; omega, by omega, by omega⟩
theorem Gn.store (h : Gn W w G p g3 g5 vk vw K V Kd Vd) (k1 : KP W (fun k => ¬ G k ∧ k ≠ g3 ∧ k ≠ g5) w vk1 K1) (k2 : KP W (fun k => ¬ G k ∧ k ≠ g3 ∧ k ≠ g5) w vw1 V1) (hm : Mod (fun k => k = g5) w w') (f : Fs w' g5 [vk1, vw1]) : Gn W w' G p g3 g5 vk1 vw1 K V K1 V1 :=
  ⟨h.tr.mod hm fun k hk e => h.n5 (e ▸ hk), h.out.other hm fun k hk => by subst hk; exact h.h5, fun k hk => Nat.lt_of_lt_of_le (h.lt k hk) hm.size, h.n3, h.n5, h.n35, h.h3, h.h5, h.f3.mod hm h.n35, f, k1.mod hm fun k _ hs => hs.2.2, k2.mod hm fun k _ hs => hs.2.2⟩
theorem Gn.start {w0 w1 : World} (hX : Ext W w0) (h3 : W.heap.size ≤ g3) (f3 : Fs w0 g3 zero2) (hT : TrW G w1 p K V) (hx : Ext w0 w1) (hG : ∀ k, G k → w0.heap.size ≤ k) (h5 : w1.heap.size ≤ g5) (hx2 : Ext w1 w) (f5 : Fs w g5 zero2) : ∃ G' : Nat → Prop, Gn W w G' p g3 g5 (.slice none 0 0) (.slice none 0 0) K V [] [] := by
  have l3 := f3.lt; have s0 := hX.size; have s1 := hx.size
  have nil : ∀ (S : Nat → Prop), KP W S w (.slice none 0 0) [] := fun S => ⟨[], ⟨none, 0, rfl, Nat.le_refl _, by unfold maxLen; omega, fun k row hk => by simp at hk⟩, ⟨rfl, fun k row d hk => by simp at hk⟩, fun hr => absurd rfl hr⟩
  refine ⟨_, hT.trim.ext hx2, ⟨(hX.trans hx).trans hx2, fun k hk => ?_⟩, fun k hk => Nat.lt_of_lt_of_le hk.2 hx2.size, fun hk => ?_, fun hk => ?_, fun e => ?_, h3, by omega, (f3.ext hx).ext hx2, f5, nil _, nil _⟩
  · have := hG k hk.1; omega
  · have := hG _ hk.1; omega
  · have := hk.2; omega
  · omega
end

end Go.Proofs.Ytdacclcaopmalaa
