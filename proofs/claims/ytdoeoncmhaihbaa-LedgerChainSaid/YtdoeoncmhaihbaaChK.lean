/- The program's chain and the document's, side by side, while a law goes on. -/
import Derived.Test.YtdoeoncmhaihbaaCLa
import Derived.Test.YtdoeoncmhaihbaaChRc
namespace Go.Proofs.Ytdoeoncmhaihbaa
set_option maxRecDepth 100000
open Go.RowKit Go.ChangeShapes Go.WideShapes Go.ChangeAt

/-- Transactions lie in blocks of S. -/
def WS (w : World) (S : Nat → Prop) : WB := ⟨w, fun u d => d.txs = [] ∨ ∀ k, u.ownBlock = some k → S k ∧ k < w.heap.size⟩
theorem recs_empty {w : World} (w' : World) {v : Value} (h : Recs 2 TxR w v []) : Recs 2 TxR w' v [] := by
  obtain ⟨rows, ⟨A, c, e, g1, g2, _⟩, hl, _⟩ := h
  have : rows = [] := List.eq_nil_of_length_eq_zero hl
  subst this
  exact ⟨[], ⟨A, c, e, g1, g2, fun k row hk => by simp at hk⟩, rfl, fun k row d hk => by simp at hk⟩
section
variable {w w' : World} {S S1 S' F : Nat → Prop} {v u : Value} {l : List BlkD} {d : BlkD}
theorem has_step (h : (WS w S).Has u d) (hm : Mod F w w') (hs : ∀ k, k < w.heap.size → S k → ¬ F k ∧ S' k) : (WS w' S').Has u d := by
  obtain ⟨h1, h2⟩ := h
  rcases h2 with h2 | h2
  · exact ⟨by have h1' : Recs 2 TxR w u d.txs := h1
              rw [h2] at h1'
              show Recs 2 TxR w' u d.txs
              rw [h2]; exact recs_empty w' h1', .inl h2⟩
  · exact ⟨recsT_mod (w := w) h1 hm fun k hk => (hs k (h2 k hk).2 (h2 k hk).1).1, .inr fun k hk => ⟨(hs k (h2 k hk).2 (h2 k hk).1).2, Nat.lt_of_lt_of_le (h2 k hk).2 hm.size⟩⟩
theorem KP.step (h : KP (WS w S) S1 w v l) (hm : Mod F w w') (hs : ∀ k, k < w.heap.size → S k → ¬ F k ∧ S' k) (hs1 : ∀ k, k < w.heap.size → S1 k → ¬ F k ∧ S' k) : KP (WS w' S') S' w' v l := by
  obtain ⟨rows, h1, ⟨h2, h3⟩, h4⟩ := h.swap hm hs1
  exact ⟨rows, h1, ⟨h2, fun k row d hk hd => by obtain ⟨⟨u, g1, g2⟩, g3⟩ := h3 k row d hk hd; exact ⟨⟨u, g1, has_step g2 hm hs⟩, g3⟩⟩, h4⟩
/-- What a call that only adds memory hands back. -/
theorem KP.later (h : KP (WS w S) S1 w' v l) (he : Ext w w') (hs : ∀ k, k < w.heap.size → S k → S' k) (hs1 : ∀ k, k < w'.heap.size → S1 k → S' k) : KP (WS w' S') S' w' v l := by
  obtain ⟨rows, h1, ⟨h2, h3⟩, h4⟩ := h.mono hs1
  exact ⟨rows, h1, ⟨h2, fun k row d hk hd => by obtain ⟨⟨u, g1, g2⟩, g3⟩ := h3 k row d hk hd; exact ⟨⟨u, g1, has_step g2 (he.mod fun _ => False) fun k hk hs' => ⟨id, hs k hk hs'⟩⟩, g3⟩⟩, h4⟩
end
theorem KP.nothing (w : World) (B : WB) (S : Nat → Prop) : KP B S w (.slice none 0 0) [] := ⟨[], ⟨none, 0, rfl, Nat.le_refl _, by unfold maxLen; omega, fun k row hk => by simp at hk⟩, ⟨rfl, fun k row d hk => by simp at hk⟩, fun hr => absurd rfl hr⟩
/-- What is neither the program's chain's nor the place of the document's. -/
def Sx (H : Nat → Prop) (q g8 : Nat) (k : Nat) : Prop := ¬ H k ∧ k ≠ q ∧ k ≠ g8
/-- The program's chain at q, the document's in g8. -/
structure RC (W w : World) (H : Nat → Prop) (q p g8 : Nat) (dv v0 vk vw : Value) (ds : List Int) (deep slot slotd : Int) (K V Kd Vd : List BlkD) : Prop where
  c : ChC H w q p dv ds deep slot K V
  out : Out W (CQ H q) w
  f8 : Fs w g8 (cRow vk vw v0 deep slotd)
  h8 : W.heap.size ≤ g8
  n8 : ¬ H g8
  q8 : g8 ≠ q
  d8 : ∀ k, dv.ownBlock = some k → k ≠ g8
  kk : KP (WS w (Sx H q g8)) (Sx H q g8) w vk Kd
  kv : KP (WS w (Sx H q g8)) (Sx H q g8) w vw Vd
section
variable {W w w' : World} {H H' : Nat → Prop} {q p g8 : Nat} {dv v0 vk vw vk1 vw1 : Value} {ds : List Int} {deep slot slotd slot' : Int} {K V Kd Vd K1 V1 : List BlkD}
theorem RC.extend (h : RC W w H q p g8 dv v0 vk vw ds deep slot slotd K V Kd Vd) (he : Ext w w') : RC W w' H q p g8 dv v0 vk vw ds deep slot slotd K V Kd Vd :=
  ⟨h.c.ext he, h.out.extend he, h.f8.ext he, h.h8, h.n8, h.q8, h.d8, h.kk.step (he.mod fun _ => False) (fun _ _ hs => ⟨id, hs⟩) fun _ _ hs => ⟨id, hs⟩, h.kv.step (he.mod fun _ => False) (fun _ _ hs => ⟨id, hs⟩) fun _ _ hs => ⟨id, hs⟩⟩
theorem RC.add (h : RC W w H q p g8 dv v0 vk vw ds deep slot slotd K V Kd Vd) (hU : Upd H H' w w') (hC : ChC H' w' q p dv ds deep slot K1 V1) : RC W w' H' q p g8 dv v0 vk vw ds deep slot slotd K1 V1 Kd Vd := by
  have l8 := h.f8.lt
  have nn : ∀ k, k < w.heap.size → ¬ H k → ¬ H' k := fun k hk hn h' => (hU.sub k h').elim hn fun e => by omega
  have hse : ∀ k, k < w.heap.size → Sx H q g8 k → ¬ H k ∧ Sx H' q g8 k := fun k hk ⟨a, b, c⟩ => ⟨a, nn k hk a, b, c⟩
  exact ⟨hC, h.out.ch hU, h.f8.mod hU.mod h.n8, h.h8, nn _ l8 h.n8, h.q8, h.d8, h.kk.step hU.mod hse hse, h.kv.step hU.mod hse hse⟩
theorem RC.next (h : RC W w H q p g8 dv v0 vk vw ds deep slot slotd K V Kd Vd) (hm : Mod (fun k => k = q) w w') (hC : ChC H w' q p dv ds deep slot' K V) : RC W w' H q p g8 dv v0 vk vw ds deep slot' slotd K V Kd Vd := by
  have hse : ∀ k, k < w.heap.size → Sx H q g8 k → ¬ k = q ∧ Sx H q g8 k := fun k _ hs => ⟨hs.2.1, hs⟩
  exact ⟨hC, h.out.nx hm, h.f8.mod hm h.q8, h.h8, h.n8, h.q8, h.d8, h.kk.step hm hse hse, h.kv.step hm hse hse⟩
theorem RC.store (h : RC W w H q p g8 dv v0 vk vw ds deep slot slotd K V Kd Vd) (k1 : KP (WS w (Sx H q g8)) (Sx H q g8) w vk1 K1) (k2 : KP (WS w (Sx H q g8)) (Sx H q g8) w vw1 V1) (hm : Mod (fun k => k = g8) w w') (f : Fs w' g8 (cRow vk1 vw1 v0 deep slot')) : RC W w' H q p g8 dv v0 vk1 vw1 ds deep slot slot' K V K1 V1 := by
  have hse : ∀ k, k < w.heap.size → Sx H q g8 k → ¬ k = g8 ∧ Sx H q g8 k := fun k _ hs => ⟨hs.2.2, hs⟩
  exact ⟨h.c.mod hm (fun k hk e => h.n8 (e ▸ hk)) (fun e => h.q8 e.symm) (fun k hk e => h.d8 k hk e), h.out.other hm fun k hk => by subst hk; exact h.h8, f, h.h8, h.n8, h.q8, h.d8, k1.step hm hse hse, k2.step hm hse hse⟩
/-- The document's slices behind a call that only adds memory. -/
theorem RC.got {l : List BlkD} {v : Value} (h : RC W w H q p g8 dv v0 vk vw ds deep slot slotd K V Kd Vd) (k : KP (WS w (Sx H q g8)) (fun k => Sx H q g8 k ∨ w.heap.size ≤ k) w' v l) (he : Ext w w') : KP (WS w' (Sx H q g8)) (Sx H q g8) w' v l := by
  have l8 := h.f8.lt
  have lq := h.c.obj.lt
  exact k.later he (fun _ _ hs => hs) fun k _ hs => hs.elim id fun e => ⟨fun hk => by have := h.c.lt k hk; omega, by omega, by omega⟩
/-- Transactions that were there when the law began. -/
theorem RC.old {u : Value} {d : BlkD} (h : RC W w H q p g8 dv v0 vk vw ds deep slot slotd K V Kd Vd) (hu : Recs 2 TxR W u d.txs) : (WS w (Sx H q g8)).Has u d := by
  refine ⟨hu.ext TxR.stays h.out.ext, ?_⟩
  by_cases ht : d.txs = []
  · exact .inl ht
  · refine .inr fun k hk => ?_
    obtain ⟨rows, hs, hl, _⟩ := hu
    have hr : rows ≠ [] := fun e => ht (List.eq_nil_of_length_eq_zero (by rw [← hl, e]; rfl))
    obtain ⟨ad, c, rfl, he, hc⟩ := slS_cells hs hr (by omega)
    have hpos := List.length_pos_iff.2 hr
    have hf := flat_len he
    have h0 := hc 0 _ (List.getElem?_eq_getElem (show 0 < rows.flatten.length by omega))
    rw [Addr.add_zero'] at h0
    have hlt := World.block_lt_of_cell? W _ h0
    cases hk
    have hs8 := h.h8
    have hsz := h.out.ext.size
    exact ⟨⟨fun hk => by have := h.out.new _ (.inl hk); omega, fun e => by have := h.out.new q (.inr rfl); omega, fun e => by omega⟩, by omega⟩
/-- Transactions that were made meanwhile. -/
theorem has_made {u : Value} {d : BlkD} {lo : Nat} (ho : OwnT lo w u d.txs) (hn : ∀ k, u.ownBlock = some k → Sx H q g8 k) : (WS w (Sx H q g8)).Has u d := ⟨ho.recs, .inr fun k hk => ⟨hn k hk, ho.lt hk⟩⟩
/-- A block of memory that is new is none of theirs. -/
theorem RC.fresh {g : Nat} (h : RC W w H q p g8 dv v0 vk vw ds deep slot slotd K V Kd Vd) (hg : w.heap.size ≤ g) : Sx H q g8 g := by
  have l8 := h.f8.lt
  have lq := h.c.obj.lt
  exact ⟨fun hk => by have := h.c.lt g hk; omega, by omega, by omega⟩
theorem RC.recK (h : RC W w H q p g8 dv v0 vk vw ds deep slot slotd K V Kd Vd) : Recs 5 BlkR w vk Kd := h.kk.recs (Ext.refl w)
theorem RC.one (h : RC W w H q p g8 dv v0 vk vw ds deep slot slotd K V Kd Vd) (h0 : v0.oneCell' = true) (s : Int) : ∀ u ∈ cRow vk vw v0 deep s, u.oneCell' = true := crow_one h.kk.one h.kv.one h0
end
theorem KP.extS {w w' : World} {S : Nat → Prop} {v : Value} {l : List BlkD} (h : KP (WS w S) S w v l) (he : Ext w w') : KP (WS w' S) S w' v l := h.step (he.mod fun _ => False) (fun _ _ hs => ⟨id, hs⟩) fun _ _ hs => ⟨id, hs⟩
theorem RC.start {W w w' : World} {H : Nat → Prop} {q p g8 : Nat} {dv v0 : Value} {ds : List Int} {deep : Int} (hC : ChC H w q p dv ds deep 0 [] []) (hO : Out W (CQ H q) w) (hg : w.heap.size ≤ g8) (hx : Ext w w') (f : Fs w' g8 (cRow (.slice none 0 0) (.slice none 0 0) v0 deep 0)) :
    RC W w' H q p g8 dv v0 (.slice none 0 0) (.slice none 0 0) ds deep 0 0 [] [] [] [] :=
  ⟨hC.ext hx, hO.extend hx, f, Nat.le_trans hO.ext.size hg, fun h => by have := hC.lt g8 h; omega, fun e => by have := hC.obj.lt; omega, fun k hk e => by have := (hC.nd k hk).2.2; omega, KP.nothing _ _ _, KP.nothing _ _ _⟩
theorem sx_upd {H H' : Nat → Prop} {q g8 k : Nat} {w w' : World} (hU : Upd H H' w w') (hk : k < w.heap.size) (h : Sx H q g8 k) : Sx H' q g8 k := ⟨fun h' => (hU.sub k h').elim h.1 fun e => by omega, h.2⟩

/-! ### What region 16 of ChainRuns tells of its operations -/
def TxE (lo : Nat) (w : World) (v : Value) (l : List TxD) : Prop := (l = [] ∧ ∃ ad, v = .slice (some ad) 0 0) ∨ OwnT lo w v l
theorem TxE.recs {lo : Nat} {w : World} {v : Value} {l : List TxD} (h : TxE lo w v l) : Recs 2 TxR w v l := by
  rcases h with ⟨rfl, ad, rfl⟩ | h
  · exact ⟨[], ⟨some ad, 0, rfl, Nat.le_refl _, by unfold maxLen; omega, fun k row hk => by simp at hk⟩, rfl, fun k row d hk => by simp at hk⟩
  · exact h.recs
def V16 (lo q g10 : Nat) (n : Int) (t : Value) (txs : List TxD) (b : BlkD) (ok : Bool) (i : Nat) (v : Value) (w : World) : Prop :=
  match i with
  | 0 => v = .pointer (some ⟨q, 0, none⟩)
  | 1 => v = .pointer (some ⟨g10, 1, none⟩)
  | 2 => v = .int .i64 n
  | 3 => ∃ ad, v = .slice (some ad) 0 0
  | 4 => v = .pointer (some ⟨g10, 7, none⟩)
  | 5 => v = t
  | 6 => TxE lo w v txs
  | 7 => ∃ u, v = .tuple #[.agg (bRow b u).toArray, .bool ok] ∧ OwnT lo w u b.txs
  | 8 => ∃ u, v = .tuple #[.agg (bRow b u).toArray, .bool ok] ∧ OwnT lo w u b.txs
  | 9 => ∃ u, v = .agg (bRow b u).toArray ∧ OwnT lo w u b.txs
  | 10 => v = .bool ok
  | 13 => v = .bool ok
  | _ => True
theorem V16.ext {lo q g10 : Nat} {n : Int} {t : Value} {txs : List TxD} {b : BlkD} {ok : Bool} (i : Nat) (v : Value) (w w' : World) (h : V16 lo q g10 n t txs b ok i v w) (he : Ext w w') : V16 lo q g10 n t txs b ok i v w' := by
  match i, h with
  | 0, h => exact h
  | 1, h => exact h
  | 2, h => exact h
  | 3, h => exact h
  | 4, h => exact h
  | 5, h => exact h
  | 6, h => exact h.imp_right fun h => h.ext he
  | 7, ⟨u, h1, h2⟩ => exact ⟨u, h1, h2.ext he⟩
  | 8, ⟨u, h1, h2⟩ => exact ⟨u, h1, h2.ext he⟩
  | 9, ⟨u, h1, h2⟩ => exact ⟨u, h1, h2.ext he⟩
  | 10, h => exact h
  | 11, h => exact h
  | 12, h => exact h
  | 13, h => exact h
  | _ + 14, h => exact h
def zB : List Value := [.int .i64 0, .int .i64 0, .int .i64 0, .int .i64 0, .slice none 0 0]
theorem V16.store {lo q g10 : Nat} {n : Int} {t : Value} {txs : List TxD} {b : BlkD} {ok : Bool} (i : Nat) (v : Value) (w w' : World) (g : Nat) (h : V16 lo q g10 n t txs b ok i v w) (f : Fs w g zB) (hm : Mod (fun k => k = g) w w') : V16 lo q g10 n t txs b ok i v w' := by
  match i, h with
  | 0, h => exact h
  | 1, h => exact h
  | 2, h => exact h
  | 3, h => exact h
  | 4, h => exact h
  | 5, h => exact h
  | 6, h => exact h.imp_right fun h => h.mod hm (h.ne_fs f)
  | 7, ⟨u, h1, h2⟩ => exact ⟨u, h1, h2.mod hm (h2.ne_fs f)⟩
  | 8, ⟨u, h1, h2⟩ => exact ⟨u, h1, h2.mod hm (h2.ne_fs f)⟩
  | 9, ⟨u, h1, h2⟩ => exact ⟨u, h1, h2.mod hm (h2.ne_fs f)⟩
  | 10, h => exact h
  | 11, h => exact h
  | 12, h => exact h
  | 13, h => exact h
  | _ + 14, h => exact h
theorem raw_of2 {b : BlkD} (h : b.Right) : b.Raw := by
  obtain ⟨⟨h1, h2⟩, ⟨h3, h4⟩, ⟨h5, h6⟩, h7, h8⟩ := h
  have hp : -9223372036854775808 ≤ b.parent ∧ b.parent ≤ 9223372036854775807 := by
    rcases h7 with h7 | ⟨⟨p1, p2, p3, p4⟩, h9⟩
    · omega
    · omega
  constructor <;> first | exact fun t ht => (h8.right t ht).raw | (constructor <;> omega) | omega
/-- The new chain of the document. -/
theorem run_cbuild (A : Option Addr) (n c : Nat) (d : Int) (w : World) : (Instr.build 38 #[(1, .slice A n c), (2, .int .i64 d)]).run Try.prog w = .ok (.agg (cRow (.slice none 0 0) (.slice none 0 0) (.slice A n c) d 0).toArray) w := by
  unfold Instr.build
  simp [run_underlying Try.underlying38, Try.sizeOf36, Try.sizeOf25, Try.sizeOf3, Instr.fill, Value.cells, cRow]
theorem w_cbuild {ops : Array Oper} {rest : List Oper} {o : Oper} {a : Act} {Q : Exit → Act → World → Prop} {w w0 : World} (x y : Operand) {v : Value} {l : List Int} {d : Int} (hgd : o.guard = none) (ho : o.op = .build 38 #[(1, x), (2, y)]) (hx : a.eval x = v) (hy : a.eval y = .int .i64 d) (hv : Ints w0 v l)
    (k : wpList Try.prog ops Q rest (a.put o.dst (.agg (cRow (.slice none 0 0) (.slice none 0 0) v d 0).toArray)) w) : wpList Try.prog ops Q (o :: rest) a w := by
  obtain ⟨A, c, rfl, _⟩ := hv
  have hr := run_cbuild A (i64s l).length c d w
  refine wpList_runs hgd ?_ k
  unfold Runs execOp
  simp [ho, hx, hy, hr]
end Go.Proofs.Ytdoeoncmhaihbaa
