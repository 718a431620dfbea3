/- A block behind the others that wait; the first one is gone if there are too many. -/
import Derived.Test.YtdacclcaopmalaaTrF
import Derived.Test.YtdacclcaopmalaaRegV
namespace Go.Proofs.Ytdacclcaopmalaa
set_option maxRecDepth 100000
open Go.RowKit

section
variable {P : Program} {ops : Array Oper} {rest : List Oper} {o : Oper} {a : Act} {Q : Exit → Act → World → Prop} {w : World} {v : Value} {listed : Array Bool} {i : Nat}
theorem w_mvH (x : Operand) (hgd : o.guard = none) (ho : o.op = .move x ∨ o.op = .assign x) (hv : a.eval x = v) (k : wpList P ops Q rest (a.put o.dst v) w) : wpList P ops Q (o :: rest) a w := by
  refine wpList_runs hgd ?_ k
  unfold Runs execOp
  rcases ho with ho | ho <;> simp [ho, hv]
theorem w_nilH (x : Operand) {A : Addr} (hgd : o.guard = none) (ho : o.op = .nilCheck x) (hv : a.eval x = .pointer (some A)) (k : wpList P ops Q rest (a.put o.dst (.pointer (some A))) w) : wpList P ops Q (o :: rest) a w :=
  wpList_runs hgd (runs_nil x ho hv) k
theorem deps_ofH (ho : ops[i]? = some o) (h : ∀ j ∈ deps o, listed[j]? = some true) (j : Nat) (hb : ((ops[i]?).map fun o => (deps o).contains j).getD false = true) : listed[j]? = some true := by
  rw [ho] at hb
  exact h j (by simpa using hb)
theorem later_ofH (h : ∀ (k : Nat) (ok : Oper), ops[k]? = some ok → i ∈ deps ok → listed[k]? = some false) (k : Nat) (hb : ((ops[k]?).map fun o => (deps o).contains i).getD false = true) : ¬ listed[k]? = some true := by
  intro hl
  cases hk : ops[k]? with
  | none => rw [hk] at hb; cases hb
  | some ok =>
    rw [hk] at hb
    rw [h k ok hk (by simpa using hb)] at hl; cases hl
end
theorem not_listedH (m j : Nat) : ¬ (Array.replicate m false)[j]? = some true := by
  rw [Array.getElem?_replicate]; split <;> simp

/-- What the call may write to by then: the queue's block, and what is new. -/
def F46 (W0 : World) (v : Value) (k : Nat) : Prop := v.ownBlock = some k ∨ W0.heap.size ≤ k
structure I46 (W0 : World) (p g4 : Nat) (m v : Value) (row : List Value) (rows : List (List Value)) (w : World) (s : Nat → Value) (L : Nat → Prop) : Prop where
  md : Mod (fun k => k = p ∨ v.ownBlock = some k) W0 w
  o0 : s 0 = .pointer (some ⟨p, 1, none⟩)
  o2 : s 2 = .int .i64 16
  o4 : s 4 = .pointer (some ⟨g4, 0, none⟩)
  f4 : Fs w g4 row
  c0 : L 0 → s 6 = .pointer (some ⟨p, 1, none⟩)
  c1 : L 1 → s 7 = .pointer (some ⟨p, 1, none⟩)
  c2 : L 2 → s 8 = .pointer (some ⟨p, 1, none⟩)
  c3 : L 3 → s 9 = .pointer (some ⟨p, 1, none⟩)
  c4 : L 4 → s 10 = v
  c5 : L 5 → s 11 = .agg row.toArray
  c8 : L 8 → s 14 = .pointer (some ⟨p, 1, none⟩)
  c9 : L 9 → s 15 = .pointer (some ⟨p, 1, none⟩)
  c6 : L 6 → ¬ L 7 → SlS w (s 12) 5 [row]
  q0 : ¬ L 7 → RowN (F46 W0 v) w 54 5 v rows
  q7 : L 7 → ¬ L 10 → RowN (F46 W0 v) w 54 5 (s 13) (rows ++ [row])
  fp : ¬ L 10 → Fs w p [m, v]
  fin : L 10 → ∃ v', Fs w p [m, v'] ∧ RowN (F46 W0 v) w 54 5 v' (rows ++ [row])
  z : L 10 → L 7
section
variable {W0 w w1 : World} {m v : Value} {p g4 : Nat} {row : List Value} {rows : List (List Value)} {s : Nat → Value} {L : Nat → Prop} {x : Value}
theorem I46.s0 (h : I46 W0 p g4 m v row rows w s L) (he : Ext w w1) (hv : x = .pointer (some ⟨p, 1, none⟩)) : I46 W0 p g4 m v row rows w1 (fun t => if t = 6 then x else s t) (fun j => j = 0 ∨ L j) := by
  exact ⟨h.md.trans (he.mod fun _ => False) fun _ _ hf => hf.elim, by simpa using h.o0, by simpa using h.o2, by simpa using h.o4, h.f4.ext he, fun _ => by simpa using hv, fun hl => by simpa using h.c1 (by simpa using hl), fun hl => by simpa using h.c2 (by simpa using hl), fun hl => by simpa using h.c3 (by simpa using hl), fun hl => by simpa using h.c4 (by simpa using hl), fun hl => by simpa using h.c5 (by simpa using hl), fun hl => by simpa using h.c8 (by simpa using hl), fun hl => by simpa using h.c9 (by simpa using hl), fun hl hn => by simpa using (h.c6 (by simpa using hl) (by simpa using hn)).ext he, fun hn => (h.q0 (by simpa using hn)).ext he, fun hl hn => by simpa using (h.q7 (by simpa using hl) (by simpa using hn)).ext he, fun hn => (h.fp (by simpa using hn)).ext he, fun hl => by obtain ⟨v', h1, h2⟩ := h.fin (by simpa using hl); exact ⟨v', h1.ext he, h2.ext he⟩, fun hl => .inr (h.z (by simpa using hl))⟩
theorem I46.s1 (h : I46 W0 p g4 m v row rows w s L) (he : Ext w w1) (hv : x = .pointer (some ⟨p, 1, none⟩)) : I46 W0 p g4 m v row rows w1 (fun t => if t = 7 then x else s t) (fun j => j = 1 ∨ L j) := by
  exact ⟨h.md.trans (he.mod fun _ => False) fun _ _ hf => hf.elim, by simpa using h.o0, by simpa using h.o2, by simpa using h.o4, h.f4.ext he, fun hl => by simpa using h.c0 (by simpa using hl), fun _ => by simpa using hv, fun hl => by simpa using h.c2 (by simpa using hl), fun hl => by simpa using h.c3 (by simpa using hl), fun hl => by simpa using h.c4 (by simpa using hl), fun hl => by simpa using h.c5 (by simpa using hl), fun hl => by simpa using h.c8 (by simpa using hl), fun hl => by simpa using h.c9 (by simpa using hl), fun hl hn => by simpa using (h.c6 (by simpa using hl) (by simpa using hn)).ext he, fun hn => (h.q0 (by simpa using hn)).ext he, fun hl hn => by simpa using (h.q7 (by simpa using hl) (by simpa using hn)).ext he, fun hn => (h.fp (by simpa using hn)).ext he, fun hl => by obtain ⟨v', h1, h2⟩ := h.fin (by simpa using hl); exact ⟨v', h1.ext he, h2.ext he⟩, fun hl => .inr (h.z (by simpa using hl))⟩
theorem I46.s2 (h : I46 W0 p g4 m v row rows w s L) (he : Ext w w1) (hv : x = .pointer (some ⟨p, 1, none⟩)) : I46 W0 p g4 m v row rows w1 (fun t => if t = 8 then x else s t) (fun j => j = 2 ∨ L j) := by
  exact ⟨h.md.trans (he.mod fun _ => False) fun _ _ hf => hf.elim, by simpa using h.o0, by simpa using h.o2, by simpa using h.o4, h.f4.ext he, fun hl => by simpa using h.c0 (by simpa using hl), fun hl => by simpa using h.c1 (by simpa using hl), fun _ => by simpa using hv, fun hl => by simpa using h.c3 (by simpa using hl), fun hl => by simpa using h.c4 (by simpa using hl), fun hl => by simpa using h.c5 (by simpa using hl), fun hl => by simpa using h.c8 (by simpa using hl), fun hl => by simpa using h.c9 (by simpa using hl), fun hl hn => by simpa using (h.c6 (by simpa using hl) (by simpa using hn)).ext he, fun hn => (h.q0 (by simpa using hn)).ext he, fun hl hn => by simpa using (h.q7 (by simpa using hl) (by simpa using hn)).ext he, fun hn => (h.fp (by simpa using hn)).ext he, fun hl => by obtain ⟨v', h1, h2⟩ := h.fin (by simpa using hl); exact ⟨v', h1.ext he, h2.ext he⟩, fun hl => .inr (h.z (by simpa using hl))⟩
theorem I46.s3 (h : I46 W0 p g4 m v row rows w s L) (he : Ext w w1) (hv : x = .pointer (some ⟨p, 1, none⟩)) : I46 W0 p g4 m v row rows w1 (fun t => if t = 9 then x else s t) (fun j => j = 3 ∨ L j) := by
  exact ⟨h.md.trans (he.mod fun _ => False) fun _ _ hf => hf.elim, by simpa using h.o0, by simpa using h.o2, by simpa using h.o4, h.f4.ext he, fun hl => by simpa using h.c0 (by simpa using hl), fun hl => by simpa using h.c1 (by simpa using hl), fun hl => by simpa using h.c2 (by simpa using hl), fun _ => by simpa using hv, fun hl => by simpa using h.c4 (by simpa using hl), fun hl => by simpa using h.c5 (by simpa using hl), fun hl => by simpa using h.c8 (by simpa using hl), fun hl => by simpa using h.c9 (by simpa using hl), fun hl hn => by simpa using (h.c6 (by simpa using hl) (by simpa using hn)).ext he, fun hn => (h.q0 (by simpa using hn)).ext he, fun hl hn => by simpa using (h.q7 (by simpa using hl) (by simpa using hn)).ext he, fun hn => (h.fp (by simpa using hn)).ext he, fun hl => by obtain ⟨v', h1, h2⟩ := h.fin (by simpa using hl); exact ⟨v', h1.ext he, h2.ext he⟩, fun hl => .inr (h.z (by simpa using hl))⟩
theorem I46.s4 (h : I46 W0 p g4 m v row rows w s L) (he : Ext w w1) (hv : x = v) : I46 W0 p g4 m v row rows w1 (fun t => if t = 10 then x else s t) (fun j => j = 4 ∨ L j) := by
  exact ⟨h.md.trans (he.mod fun _ => False) fun _ _ hf => hf.elim, by simpa using h.o0, by simpa using h.o2, by simpa using h.o4, h.f4.ext he, fun hl => by simpa using h.c0 (by simpa using hl), fun hl => by simpa using h.c1 (by simpa using hl), fun hl => by simpa using h.c2 (by simpa using hl), fun hl => by simpa using h.c3 (by simpa using hl), fun _ => by simpa using hv, fun hl => by simpa using h.c5 (by simpa using hl), fun hl => by simpa using h.c8 (by simpa using hl), fun hl => by simpa using h.c9 (by simpa using hl), fun hl hn => by simpa using (h.c6 (by simpa using hl) (by simpa using hn)).ext he, fun hn => (h.q0 (by simpa using hn)).ext he, fun hl hn => by simpa using (h.q7 (by simpa using hl) (by simpa using hn)).ext he, fun hn => (h.fp (by simpa using hn)).ext he, fun hl => by obtain ⟨v', h1, h2⟩ := h.fin (by simpa using hl); exact ⟨v', h1.ext he, h2.ext he⟩, fun hl => .inr (h.z (by simpa using hl))⟩
theorem I46.s5 (h : I46 W0 p g4 m v row rows w s L) (he : Ext w w1) (hv : x = .agg row.toArray) : I46 W0 p g4 m v row rows w1 (fun t => if t = 11 then x else s t) (fun j => j = 5 ∨ L j) := by
  exact ⟨h.md.trans (he.mod fun _ => False) fun _ _ hf => hf.elim, by simpa using h.o0, by simpa using h.o2, by simpa using h.o4, h.f4.ext he, fun hl => by simpa using h.c0 (by simpa using hl), fun hl => by simpa using h.c1 (by simpa using hl), fun hl => by simpa using h.c2 (by simpa using hl), fun hl => by simpa using h.c3 (by simpa using hl), fun hl => by simpa using h.c4 (by simpa using hl), fun _ => by simpa using hv, fun hl => by simpa using h.c8 (by simpa using hl), fun hl => by simpa using h.c9 (by simpa using hl), fun hl hn => by simpa using (h.c6 (by simpa using hl) (by simpa using hn)).ext he, fun hn => (h.q0 (by simpa using hn)).ext he, fun hl hn => by simpa using (h.q7 (by simpa using hl) (by simpa using hn)).ext he, fun hn => (h.fp (by simpa using hn)).ext he, fun hl => by obtain ⟨v', h1, h2⟩ := h.fin (by simpa using hl); exact ⟨v', h1.ext he, h2.ext he⟩, fun hl => .inr (h.z (by simpa using hl))⟩
theorem I46.s6 (h : I46 W0 p g4 m v row rows w s L) (he : Ext w w1) (hv : SlS w1 x 5 [row]) : I46 W0 p g4 m v row rows w1 (fun t => if t = 12 then x else s t) (fun j => j = 6 ∨ L j) := by
  exact ⟨h.md.trans (he.mod fun _ => False) fun _ _ hf => hf.elim, by simpa using h.o0, by simpa using h.o2, by simpa using h.o4, h.f4.ext he, fun hl => by simpa using h.c0 (by simpa using hl), fun hl => by simpa using h.c1 (by simpa using hl), fun hl => by simpa using h.c2 (by simpa using hl), fun hl => by simpa using h.c3 (by simpa using hl), fun hl => by simpa using h.c4 (by simpa using hl), fun hl => by simpa using h.c5 (by simpa using hl), fun hl => by simpa using h.c8 (by simpa using hl), fun hl => by simpa using h.c9 (by simpa using hl), fun _ _ => by simpa using hv, fun hn => (h.q0 (by simpa using hn)).ext he, fun hl hn => by simpa using (h.q7 (by simpa using hl) (by simpa using hn)).ext he, fun hn => (h.fp (by simpa using hn)).ext he, fun hl => by obtain ⟨v', h1, h2⟩ := h.fin (by simpa using hl); exact ⟨v', h1.ext he, h2.ext he⟩, fun hl => .inr (h.z (by simpa using hl))⟩
theorem I46.s7 (h : I46 W0 p g4 m v row rows w s L) (hm : Mod (F46 W0 v) w w1) (hp : ¬ F46 W0 v p) (h4 : ¬ F46 W0 v g4) (n10 : ¬ L 10) (hv : RowN (F46 W0 v) w1 54 5 x (rows ++ [row])) : I46 W0 p g4 m v row rows w1 (fun t => if t = 13 then x else s t) (fun j => j = 7 ∨ L j) := by
  exact ⟨h.md.trans hm fun k hk hf => hf.elim .inr fun e => by omega, by simpa using h.o0, by simpa using h.o2, by simpa using h.o4, h.f4.mod hm h4, fun hl => by simpa using h.c0 (by simpa using hl), fun hl => by simpa using h.c1 (by simpa using hl), fun hl => by simpa using h.c2 (by simpa using hl), fun hl => by simpa using h.c3 (by simpa using hl), fun hl => by simpa using h.c4 (by simpa using hl), fun hl => by simpa using h.c5 (by simpa using hl), fun hl => by simpa using h.c8 (by simpa using hl), fun hl => by simpa using h.c9 (by simpa using hl), fun _ hn => absurd (Or.inl rfl) hn, fun hn => absurd (Or.inl rfl) hn, fun _ _ => by simpa using hv, fun hn => (h.fp (by simpa using hn)).mod hm hp, fun hl => absurd (by simpa using hl) n10, fun _ => .inl rfl⟩
theorem I46.s8 (h : I46 W0 p g4 m v row rows w s L) (he : Ext w w1) (hv : x = .pointer (some ⟨p, 1, none⟩)) : I46 W0 p g4 m v row rows w1 (fun t => if t = 14 then x else s t) (fun j => j = 8 ∨ L j) := by
  exact ⟨h.md.trans (he.mod fun _ => False) fun _ _ hf => hf.elim, by simpa using h.o0, by simpa using h.o2, by simpa using h.o4, h.f4.ext he, fun hl => by simpa using h.c0 (by simpa using hl), fun hl => by simpa using h.c1 (by simpa using hl), fun hl => by simpa using h.c2 (by simpa using hl), fun hl => by simpa using h.c3 (by simpa using hl), fun hl => by simpa using h.c4 (by simpa using hl), fun hl => by simpa using h.c5 (by simpa using hl), fun _ => by simpa using hv, fun hl => by simpa using h.c9 (by simpa using hl), fun hl hn => by simpa using (h.c6 (by simpa using hl) (by simpa using hn)).ext he, fun hn => (h.q0 (by simpa using hn)).ext he, fun hl hn => by simpa using (h.q7 (by simpa using hl) (by simpa using hn)).ext he, fun hn => (h.fp (by simpa using hn)).ext he, fun hl => by obtain ⟨v', h1, h2⟩ := h.fin (by simpa using hl); exact ⟨v', h1.ext he, h2.ext he⟩, fun hl => .inr (h.z (by simpa using hl))⟩
theorem I46.s9 (h : I46 W0 p g4 m v row rows w s L) (he : Ext w w1) (hv : x = .pointer (some ⟨p, 1, none⟩)) : I46 W0 p g4 m v row rows w1 (fun t => if t = 15 then x else s t) (fun j => j = 9 ∨ L j) := by
  exact ⟨h.md.trans (he.mod fun _ => False) fun _ _ hf => hf.elim, by simpa using h.o0, by simpa using h.o2, by simpa using h.o4, h.f4.ext he, fun hl => by simpa using h.c0 (by simpa using hl), fun hl => by simpa using h.c1 (by simpa using hl), fun hl => by simpa using h.c2 (by simpa using hl), fun hl => by simpa using h.c3 (by simpa using hl), fun hl => by simpa using h.c4 (by simpa using hl), fun hl => by simpa using h.c5 (by simpa using hl), fun hl => by simpa using h.c8 (by simpa using hl), fun _ => by simpa using hv, fun hl hn => by simpa using (h.c6 (by simpa using hl) (by simpa using hn)).ext he, fun hn => (h.q0 (by simpa using hn)).ext he, fun hl hn => by simpa using (h.q7 (by simpa using hl) (by simpa using hn)).ext he, fun hn => (h.fp (by simpa using hn)).ext he, fun hl => by obtain ⟨v', h1, h2⟩ := h.fin (by simpa using hl); exact ⟨v', h1.ext he, h2.ext he⟩, fun hl => .inr (h.z (by simpa using hl))⟩
theorem I46.s10 (h : I46 W0 p g4 m v row rows w s L) (hm : Mod (fun k => k = p) w w1) (hp : ¬ F46 W0 v p) (h4 : ¬ g4 = p) (l7 : L 7) (n10 : ¬ L 10) (hv : Fs w1 p [m, s 13]) : I46 W0 p g4 m v row rows w1 s (fun j => j = 10 ∨ L j) := by
  have hq := (h.q7 l7 n10).mod hm (fun k hk e => hp (e ▸ hk))
  exact ⟨h.md.trans hm fun _ _ e => .inl e, h.o0, h.o2, h.o4, h.f4.mod hm h4, fun hl => h.c0 (by simpa using hl), fun hl => h.c1 (by simpa using hl), fun hl => h.c2 (by simpa using hl), fun hl => h.c3 (by simpa using hl), fun hl => h.c4 (by simpa using hl), fun hl => h.c5 (by simpa using hl), fun hl => h.c8 (by simpa using hl), fun hl => h.c9 (by simpa using hl),
    fun _ hn => absurd (Or.inr l7) hn, fun hn => absurd (Or.inr l7) hn, fun _ hn => absurd (Or.inl rfl) hn, fun hn => absurd (Or.inl rfl) hn, fun _ => ⟨_, hv, hq⟩, fun _ => .inr l7⟩
theorem I46.put {N d i : Nat} {listed : Array Bool} {a : Act} (hd : d < a.tmps.size) (hi : i < listed.size) (hsz : a.tmps.size = N) (hdf : a.defers = [])
    (h : I46 W0 p g4 m v row rows w1 (fun t => if t = d then x else a.tmps.getD t undef) (fun j => j = i ∨ listed[j]? = some true)) :
    (a.put (some d) x).tmps.size = N ∧ (a.put (some d) x).defers = [] ∧ I46 W0 p g4 m v row rows w1 (fun t => (a.put (some d) x).tmps.getD t undef) (fun j => (listed.setIfInBounds i true)[j]? = some true) := by
  refine ⟨by rw [Act.put_size]; exact hsz, by rw [Act.put_defers']; exact hdf, ?_⟩
  rw [put_slots _ _ _ hd, put_listed _ _ hi]; exact h
theorem I46.stay {N i : Nat} {listed : Array Bool} {a : Act} (hi : i < listed.size) (hsz : a.tmps.size = N) (hdf : a.defers = [])
    (h : I46 W0 p g4 m v row rows w1 (fun t => a.tmps.getD t undef) (fun j => j = i ∨ listed[j]? = some true)) :
    a.tmps.size = N ∧ a.defers = [] ∧ I46 W0 p g4 m v row rows w1 (fun t => a.tmps.getD t undef) (fun j => (listed.setIfInBounds i true)[j]? = some true) := by
  refine ⟨hsz, hdf, ?_⟩
  rw [put_listed _ _ hi]; exact h
end

theorem arr_explode {a : Array Value} {n : Nat} (h : a.size = n) : a = ((List.range n).map fun i => a.getD i undef).toArray := by
  apply Array.ext
  · simp [h]
  · intro i h1 h2
    simp [h1]

/-- One more behind those that wait. -/
def pushQ (V : List BlkD) (b : BlkD) : List BlkD := if 16 < (V ++ [b]).length then (V ++ [b]).drop 1 else V ++ [b]
set_option maxRecDepth 100000 in
set_option maxHeartbeats 6400000 in
theorem push_any {X : Nat → Prop} {w : World} {p g : Nat} {v u : Value} {K V : List BlkD} {b : BlkD} (h0 : TrC X w p g v K V) (hX0 : ∀ k, X k → k < w.heap.size) (ht0 : TxX X w u b) (hV : V.length ≤ 16) (hfit0 : Fit8 K (V ++ [b])) :
    Calls Try.prog 53 #[.pointer (some ⟨p, 1, none⟩), .agg #[.int .i64 b.slot, .int .i64 b.miner, .int .i64 b.var, .int .i64 b.parent, u], .int .i64 16] w fun e w' => e = .returned (.tuple #[]) ∧
      ∃ v', TrC X w' p g v' K (pushQ V b) ∧ Mod (fun k => k = p ∨ v.ownBlock = some k) w w' ∧ ∀ k, v'.ownBlock = some k → v.ownBlock = some k ∨ w.heap.size ≤ k := by
  refine calls_keep ?_
  have f1 := h0.obj
  have hl := hide_ h0.lts
  have hpv := hide_ (show ∀ k, v.ownBlock = some k → ¬ k = p from fun k hk => (h0.sep.2.2.2 k hk).2.1)
  obtain ⟨us, hus, hrow, htxs⟩ := h0.que
  have hone := hide_ (blk_one (a := b.slot) (b := b.miner) (c := b.var) (d := b.parent) ht0.1.one')
  have hrl : ((V.zip us).map fun x => bRow x.1 x.2).length = V.length := by simp [hus]
  obtain ⟨rows, hrows⟩ : ∃ rows, (V.zip us).map (fun x => bRow x.1 x.2) = rows := ⟨_, rfl⟩
  rw [hrows] at hrow hrl
  have hbig := hide_ (show (rows.length + [bRow b u].length) * 56 ≤ 140737488355328 from by simp; omega)
  have hrows2 := hide_ (show ((V ++ [b]).zip (us ++ [u])).map (fun x => bRow x.1 x.2) = rows ++ [bRow b u] from by rw [List.zip_append hus.symm, List.map_append, hrows]; rfl)
  have hus2 := hide_ (show (us ++ [u]).length = (V ++ [b]).length from by simp [hus])
  have htx2 := hide_ (show ∀ x ∈ (V ++ [b]).zip (us ++ [u]), TxX X w x.2 x.1 from by
    rw [List.zip_append hus.symm]
    intro x hx
    rcases List.mem_append.1 hx with hx | hx
    · exact htxs x hx
    · simp at hx; subst hx; exact ht0)
  have hXp := hide_ (fun k hk (e : k = p) => h0.sep.2.1 (e ▸ hk) : ∀ k, X k → ¬ k = p)
  have hXv := hide_ (fun k hk (e : v.ownBlock = some k) => (h0.sep.2.2.2 k e).1 hk : ∀ k, X k → ¬ v.ownBlock = some k)
  have hall := hide_ h0
  have hall2 := hide_ hX0
  have hfit := hide_ hfit0
  have hlen : (V ++ [b]).length = V.length + 1 := by simp
  clear h0 hX0 ht0 hfit0 hus htxs hrows hrl
  go_enter Try.func53, Try.ntmps53
  go_wp2_with ((first
    | ((with_reducible refine at_box ?_); refine w_box _ (bRow b u) rfl rfl rfl rfl ?_; intro g4 w1 hg4 hX f4; replace f1 := f1.ext hX; replace hrow := hrow.ext hX)
    | fail) <;> (try simp only [Act.put, List.setIfInBounds_toArray, List.set_cons_zero, List.set_cons_succ]))
  refine wp_region_inv (by kernel_rfl) (by kernel_rfl) ?_
  intro wd hxd
  replace f1 := f1.ext hxd
  replace f4 := f4.ext hxd
  replace hX := hX.trans hxd
  have hrow2 : RowN (F46 wd v) wd 54 5 v rows := (hrow.ext hxd).mono fun k hk => .inl hk
  have hpF : ¬ F46 wd v p := fun h => h.elim (fun e => hpv.out p e rfl) fun e => by have := f1.lt; omega
  have h4F : ¬ F46 wd v g4 := fun h => h.elim (fun e => by have := hl.out.2.2 g4 e; omega) fun e => by have := f4.lt; omega
  have h4p : ¬ g4 = p := fun e => by have := hl.out.1; omega
  refine ⟨fun listed a' w' => a'.tmps.size = 31 ∧ a'.defers = [] ∧ I46 wd p g4 (.map (some g)) v (bRow b u) rows w' (fun t => a'.tmps.getD t undef) (fun j => listed[j]? = some true), ⟨rfl, rfl, ?_⟩, ?_, ?_⟩
  · exact ⟨Mod.refl _ _, rfl, rfl, rfl, f4, fun h => absurd h (not_listedH _ _), fun h => absurd h (not_listedH _ _), fun h => absurd h (not_listedH _ _), fun h => absurd h (not_listedH _ _), fun h => absurd h (not_listedH _ _), fun h => absurd h (not_listedH _ _), fun h => absurd h (not_listedH _ _), fun h => absurd h (not_listedH _ _),
      fun h => absurd h (not_listedH _ _), fun _ => hrow2, fun h => absurd h (not_listedH _ _), fun _ => f1, fun h => absurd h (not_listedH _ _), fun h => absurd h (not_listedH _ _)⟩
  · intro listed a' w' i o hls hinv ho hun hdeps hlater
    obtain ⟨hsz, hdf, h⟩ := hinv
    have hi : i < 11 := (Array.getElem?_eq_some_iff.1 ho).1
    have hls' : listed.size = 11 := hls
    rcases (show i = 0 ∨ i = 1 ∨ i = 2 ∨ i = 3 ∨ i = 4 ∨ i = 5 ∨ i = 6 ∨ i = 7 ∨ i = 8 ∨ i = 9 ∨ i = 10 by omega) with rfl | rfl | rfl | rfl | rfl | rfl | rfl | rfl | rfl | rfl | rfl
    · refine wpOp_of_list rfl ?_
      refine w_mvH _ rfl (.inl rfl) h.o0 ?_
      exact I46.put (by omega) (by omega) hsz hdf (h.s0 (Ext.refl _) rfl)
    · refine wpOp_of_list rfl ?_
      refine w_mvH _ rfl (.inl rfl) h.o0 ?_
      exact I46.put (by omega) (by omega) hsz hdf (h.s1 (Ext.refl _) rfl)
    · have l1 := deps_ofH ho hdeps 1 (by kernel_rfl)
      refine wpOp_of_list rfl ?_
      refine w_nilH _ rfl rfl (h.c1 l1) ?_
      exact I46.put (by omega) (by omega) hsz hdf (h.s2 (Ext.refl _) rfl)
    · have l2 := deps_ofH ho hdeps 2 (by kernel_rfl)
      refine wpOp_of_list rfl ?_
      refine w_fieldO Try.stQue _ p 1 0 rfl rfl (h.c2 l2) (by omega) ?_
      exact I46.put (by omega) (by omega) hsz hdf (h.s3 (Ext.refl _) rfl)
    · have l3 := deps_ofH ho hdeps 3 (by kernel_rfl)
      have n7 := later_ofH hlater 7 (by kernel_rfl)
      refine wpOp_of_list rfl ?_
      refine w_fload _ rfl rfl (h.c3 l3) (h.fp fun hl => n7 (h.z hl)) rfl (agg_of (by kernel_rfl)) ?_
      exact I46.put (by omega) (by omega) hsz hdf (h.s4 (Ext.refl _) rfl)
    · refine wpOp_of_list rfl ?_
      refine w_aload Try.stBlk _ rfl rfl h.o4 h.f4 rfl ?_
      exact I46.put (by omega) (by omega) hsz hdf (h.s5 (Ext.refl _) rfl)
    · have l5 := deps_ofH ho hdeps 5 (by kernel_rfl)
      have e5 : a'.tmps.getD 11 undef = .agg (bRow b u).toArray := h.c5 l5
      refine wpOp_of_list rfl ?_
      refine w_nnew Try.enBlk [bRow b u] rfl rfl (by show [(0, a'.tmps.getD 11 undef)] = _; rw [e5]; rfl) (by intro y hy; simp at hy; subst hy; rfl) rfl (by omega) ?_
      intro vl w1 B hB1 hB2 hx hn
      exact I46.put (by omega) (by omega) hsz hdf (h.s6 hx hn.slS)
    · have l4 := deps_ofH ho hdeps 4 (by kernel_rfl)
      have l6 := deps_ofH ho hdeps 6 (by kernel_rfl)
      have n7 : ¬ listed[7]? = some true := by rw [hun]; simp
      have n10 : ¬ listed[10]? = some true := fun hl => n7 (h.z hl)
      have hs6 := h.c6 l6 n7
      refine wpOp_of_list rfl ?_
      refine w_napp Try.enBlk _ _ rfl rfl (h.c4 l4) rfl (h.q0 n7) hs6 (by simp) (by intro y hy; simp at hy; subst hy; exact hone.out) hbig.out ?_
      intro v9 w1 hm9 hn9
      exact I46.put (by omega) (by omega) hsz hdf (h.s7 hm9 hpF h4F n10 (hn9.mono fun k hk => hk.elim id fun e => .inr (Nat.le_trans h.md.size e.1)))
    · have l0 := deps_ofH ho hdeps 0 (by kernel_rfl)
      refine wpOp_of_list rfl ?_
      refine w_nilH _ rfl rfl (h.c0 l0) ?_
      exact I46.put (by omega) (by omega) hsz hdf (h.s8 (Ext.refl _) rfl)
    · have l8 := deps_ofH ho hdeps 8 (by kernel_rfl)
      refine wpOp_of_list rfl ?_
      refine w_fieldO Try.stQue _ p 1 0 rfl rfl (h.c8 l8) (by omega) ?_
      exact I46.put (by omega) (by omega) hsz hdf (h.s9 (Ext.refl _) rfl)
    · have l7 := deps_ofH ho hdeps 7 (by kernel_rfl)
      have l9 := deps_ofH ho hdeps 9 (by kernel_rfl)
      have n10 : ¬ listed[10]? = some true := by rw [hun]; simp
      obtain ⟨A, c, hv9, _⟩ := (h.q7 l7 n10).slS
      refine wpOp_of_list rfl ?_
      refine w_fstore _ _ rfl rfl rfl (h.c9 l9) rfl (h.fp n10) (by simp) (by show (a'.tmps.getD 13 undef).cells = #[a'.tmps.getD 13 undef]; rw [hv9]; rfl) (by show (a'.tmps.getD 13 undef).oneCell' = true; rw [hv9]; rfl) (by kernel_rfl) ?_
      intro w1 hm1 hf1
      exact I46.stay (by omega) hsz hdf (h.s10 hm1 hpF h4p l7 n10 hf1)
  · intro listed a' w5 hallL hinv
    obtain ⟨hsz, hdf, h⟩ := hinv
    obtain ⟨v5, f5, q5⟩ := h.fin (hallL 10 (by decide))
    obtain ⟨tm, df⟩ := a'
    simp only at hsz hdf h
    subst hdf
    have hM := (hX.mod fun k => k = p ∨ v.ownBlock = some k).trans h.md fun _ _ e => e
    have hv5 := hide_ (show ∀ k, v5.ownBlock = some k → v.ownBlock = some k ∨ w.heap.size ≤ k from fun k hk => (q5.inF k hk).imp_right fun e => Nat.le_trans hX.size e)
    have hT := hall.out.renew (V' := V ++ [b]) hall2.out hM f5 ⟨us ++ [u], hus2.out, by rw [hrows2.out]; exact ⟨q5.own, q5.each, fun k hk => hk⟩, fun x hx => (htx2.out x hx).mod hM fun k hk hf => hf.elim (hXp.out k hk) (hXv.out k hk)⟩ hv5.out hfit.out
    obtain ⟨s1, s3, s5, s6, s7, s8, s9, s10, s11, s12, s13, s14, s15, s16, s17, s18, s19, s20, s21, s22, s23, s24, s25, s26, s27, s28, s29, s30, rfl⟩ : ∃ s1 s3 s5 s6 s7 s8 s9 s10 s11 s12 s13 s14 s15 s16 s17 s18 s19 s20 s21 s22 s23 s24 s25 s26 s27 s28 s29 s30 : Value, tm = #[.pointer (some ⟨p, 1, none⟩), s1, .int .i64 16, s3, .pointer (some ⟨g4, 0, none⟩), s5, s6, s7, s8, s9, s10, s11, s12, s13, s14, s15, s16, s17, s18, s19, s20, s21, s22, s23, s24, s25, s26, s27, s28, s29, s30] := ⟨tm.getD 1 undef, tm.getD 3 undef, tm.getD 5 undef, tm.getD 6 undef, tm.getD 7 undef, tm.getD 8 undef, tm.getD 9 undef, tm.getD 10 undef, tm.getD 11 undef, tm.getD 12 undef, tm.getD 13 undef, tm.getD 14 undef, tm.getD 15 undef, tm.getD 16 undef, tm.getD 17 undef, tm.getD 18 undef, tm.getD 19 undef, tm.getD 20 undef, tm.getD 21 undef, tm.getD 22 undef, tm.getD 23 undef, tm.getD 24 undef, tm.getD 25 undef, tm.getD 26 undef, tm.getD 27 undef, tm.getD 28 undef, tm.getD 29 undef, tm.getD 30 undef, by
        have e := arr_explode hsz
        rw [← h.o0, ← h.o2, ← h.o4]; exact e⟩
    clear h hsz hallL q5
    obtain ⟨V2, hV2⟩ : ∃ V2, V ++ [b] = V2 := ⟨_, rfl⟩
    have hV2' := hide_ hV2
    rw [hV2] at hT hlen
    have hr := hide_ hT.recs
    have hX5 : ∀ k, X k → k < w5.heap.size := fun k hk => Nat.lt_of_lt_of_le (hall2.out k hk) hM.size
    by_cases hc : 16 < V2.length
    · have t1 : decide ((16 : Int) < (V2.length : Int)) = true := decide_eq_true (by omega)
      obtain ⟨us5, hus5, hrow5, htxs5⟩ := hT.que
      obtain ⟨gq, cap, cs, rfl, hB, hcl, hVc, hcm, hct⟩ := que_blk hus5 hrow5 (by intro e; rw [e] at hc; simp at hc)
      have hn17 : V2.length ≤ 100 := by omega
      have h10 := hide_ (show ∀ u ∈ cs.take (V2.length * 5), u.oneCell' = true from by
        rw [hct]
        intro u hu
        obtain ⟨row, hrw, hu⟩ := List.mem_flatten.1 hu
        obtain ⟨q, hq, rfl⟩ := List.mem_map.1 hrw
        exact blk_one ((htxs5 q hq).1.one') u hu)
      have hgqp := hide_ (show ¬ gq = p from (hT.sep.2.2.2 gq rfl).2.1)
      have hXq := hide_ (fun k hk (e : k = gq) => (hT.sep.2.2.2 gq rfl).1 (e ▸ hk) : ∀ k, X k → ¬ k = gq)
      replace hT := hide_ hT
      replace hB := hide_ hB
      replace hcl := hide_ hcl
      replace hn17 := hide_ hn17
      replace hVc := hide_ hVc
      replace hcm := hide_ hcm
      replace hct := hide_ hct
      replace hus5 := hide_ hus5
      replace htxs5 := hide_ htxs5
      have hi0 := hide_ (show 0 < V2.length from by omega)
      have hc' := hide_ hc
      clear hc hlen hV hV2 hrow5 hrow hrow2 f1 f4
      go_wp2_with ((first
        | (go_at_call 75; refine (Delete_blk (cs := cs) (i := 0) (b := 1) hB.out hcl.out hi0.out hn17.out hVc.out rfl h10.out).mono ?_; rintro e w6 ⟨rfl, hmD, cs', hB', hcl', htk⟩; replace f5 := f5.mod hmD (fun e => hgqp.out e.symm))
        | ((with_reducible refine at_bi ?_); refine w_rlen Try.enBlk.elS _ rfl rfl rfl hr.out ?_)
        | ((with_reducible refine at_store ?_); refine w_fstore _ _ rfl rfl rfl rfl rfl f5 (by simp) rfl rfl (by kernel_rfl) ?_; intro w7 hm7 f7; replace f5 : Fs w7 p [.map (some g), .slice (some ⟨gq, 0, none⟩) (V2.length - 1) cap] := f7; replace hmD := (hmD.mono (G := fun k => k = p ∨ k = gq) fun _ _ e => .inr e).trans hm7 (fun _ _ e => .inl e); replace hB' := hB'.mod hm7 hgqp.out; clear hm7 f7)
        | (refine w_fieldO Try.stQue _ _ _ _ rfl rfl rfl (by omega) ?_)
        | ((with_reducible refine at_load ?_); refine w_fload _ rfl rfl rfl f5 rfl (agg_of (by kernel_rfl)) ?_)
        | fail) <;> (try simp only [Act.put, List.setIfInBounds_toArray, List.set_cons_zero, List.set_cons_succ]))
      go_end0
      obtain ⟨hq1, hq2⟩ := que_take hus5.out hi0.out hVc.out hcm.out hct.out hB' hcl' htk
      have hM2 : Mod (fun k => k = p ∨ (Value.slice (some ⟨gq, 0, none⟩) V2.length cap).ownBlock = some k) w5 _ := hmD.mono fun k _ h => h.elim .inl fun e => .inr (by rw [e]; rfl)
      have hz := zip_erase (fun (a : BlkD) (b : Value) => (a, b)) hus5.out 0
      have hid : (fun x : BlkD × Value => (x.1, x.2)) = id := rfl
      rw [hid, List.map_id, List.map_id] at hz
      refine Keep.intro ⟨rfl, .slice (some ⟨gq, 0, none⟩) (V2.length - 1) cap, ?_, hM.trans hM2 fun k hk h => h.elim .inl fun e => (hv5.out k e).elim .inr fun e => by omega, fun k hk => hv5.out k hk⟩
      rw [pushQ, hV2'.out, if_pos hc'.out, show V2.drop 1 = V2.eraseIdx 0 from by rw [List.eraseIdx_zero, List.drop_one]]
      exact hT.out.renew hX5 hM2 f5 ⟨_, hq1, hq2, fun y hy => by
        rw [← hz] at hy
        exact (htxs5.out y (List.mem_of_mem_eraseIdx hy)).mod hmD fun k hk hf => hf.elim (hXp.out k hk) (hXq.out k hk)⟩ (fun k hk => .inl hk) (hT.out.fit.sub (List.eraseIdx_sublist ..))
    · have t1 : decide ((16 : Int) < (V2.length : Int)) = false := decide_eq_false (by omega)
      replace hT := hide_ hT
      have hc' := hide_ hc
      clear hc hlen hV hV2 hrow hrow2 f1 f4
      go_wp2_with ((first
        | ((with_reducible refine at_bi ?_); refine w_rlen Try.enBlk.elS _ rfl rfl rfl hr.out ?_)
        | (refine w_fieldO Try.stQue _ _ _ _ rfl rfl rfl (by omega) ?_)
        | ((with_reducible refine at_load ?_); refine w_fload _ rfl rfl rfl f5 rfl (agg_of (by kernel_rfl)) ?_)
        | fail) <;> (try simp only [Act.put, List.setIfInBounds_toArray, List.set_cons_zero, List.set_cons_succ]))
      go_end0
      exact Keep.intro ⟨rfl, v5, by rw [pushQ, hV2'.out, if_neg hc'.out]; exact hT.out, hM, hv5.out⟩
end Go.Proofs.Ytdacclcaopmalaa
