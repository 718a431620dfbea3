/- Steps of a walk at slices whose address is not looked at: len, a cut, an index, the comparison with nil, the conversion of bytes to a string, append. -/
import Derived.Test.YtabbgnlabiakoaaByt
namespace Go.Proofs.Ytabbgnlabiakoaa
open Go.RowKit

theorem Try.elB : El Try.prog 28 5 (.int .u8 0) 1 := by
  obtain ⟨i0, hi, hz0, hz1, hz2⟩ := info_parts Try.infoU8
  exact ⟨Try.underlying28, ⟨i0, hi, hz0, hz1, hz2⟩, rfl, by omega⟩

/-- The bytes l as a string. -/
def strN (l : List Nat) : ByteArray := ⟨(l.map fun n => UInt8.ofNat n).toArray⟩
theorem strN_inj {l m : List Nat} (hl : ∀ x ∈ l, x < 256) (hm : ∀ x ∈ m, x < 256) (h : strN l = strN m) : l = m := by
  have h' : l.map (fun n => UInt8.ofNat n) = m.map (fun n => UInt8.ofNat n) := by
    have := congrArg (fun b : ByteArray => b.data.toList) h; simpa [strN] using this
  have h2 := congrArg (List.map UInt8.toNat) h'
  simp only [List.map_map] at h2
  have hid : ∀ k : List Nat, (∀ x ∈ k, x < 256) → k.map (UInt8.toNat ∘ fun n => UInt8.ofNat n) = k := fun k hk => by
    conv => rhs; rw [← List.map_id k]
    refine List.map_congr_left fun x hx => ?_
    simp [Nat.mod_eq_of_lt (show x < 2 ^ 8 from hk x hx)]
  rwa [hid l hl, hid m hm] at h2
theorem strN_append (l m : List Nat) : strN (l ++ m) = strN l ++ strN m := by
  apply ByteArray.ext; simp [strN]

theorem runs_str {o : Oper} {ρ : Operand → Value} {w : World} {v : Value} {l : List Nat} (x : Operand) (ho : o.op = .convert 28 9 x) (hv : ρ x = v) (h : Byt w v l) :
    Runs Try.prog o ρ w (.string (strN l)) := by
  obtain ⟨A, c, rfl, h1, h2, h3⟩ := h
  unfold Runs execOp
  have hl : ∀ A : Option Addr, (∀ k u, (u8s l)[k]? = some u → ∃ ad : Addr, A = some ad ∧ w.cell? (ad.add k) = some u) →
      (convert 28 9 (.slice A (u8s l).length c)).run Try.prog w = .ok (.string (strN l)) w := by
    intro A h3
    cases A with
    | none =>
      have : l = [] := by
        cases l with
        | nil => rfl
        | cons x r => obtain ⟨ad, e, _⟩ := h3 0 _ rfl; cases e
      subst this
      exact run_convert_bytes_nil w 28 5 Try.underlying28 Try.underlying5 _ _ _ Try.underlying9
    | some ad =>
      have hlc : (loadCells ad l.length).run Try.prog w = .ok ((l.map fun n : Nat => (n : Int)).map (Value.int .u8)).toArray w := by
        have := run_loadCells_list (P := Try.prog) w ad (u8s l) (fun j u hj => by obtain ⟨ad', e, hc⟩ := h3 j u hj; injection e with e; subst e; exact hc)
        rw [u8s_length] at this
        rw [this]; simp [u8s]
      rw [run_convert_bytes_string w 28 9 5 _ _ c Try.underlying28 Try.underlying5 Try.underlying9, u8s_length, run_bytesToString w ad l.length c _ hlc, foldl_push_bytes]
      simp [strN, ByteArray.empty, ByteArray.emptyWithCapacity]
      rfl
  simp [ho, hv, hl A h3]

theorem w_str {ops : Array Oper} {rest : List Oper} {o : Oper} {a : Act} {Q : Exit → Act → World → Prop} {w : World} {v : Value} {l : List Nat} (x : Operand) (hgd : o.guard = none) (ho : o.op = .convert 28 9 x) (hv : a.eval x = v) (h : Byt w v l)
    (k : wpList Try.prog ops Q rest (a.put o.dst (.string (strN l))) w) : wpList Try.prog ops Q (o :: rest) a w :=
  wpList_runs hgd (runs_str x ho hv h) k

theorem u8s_drop (l : List Nat) (k : Nat) : (u8s l).drop k = u8s (l.drop k) := by simp [u8s]
theorem u8s_take (l : List Nat) (k : Nat) : (u8s l).take k = u8s (l.take k) := by simp [u8s]
theorem u8s_get (l : List Nat) (k : Nat) (h : k < (u8s l).length) : (u8s l)[k] = .int .u8 (l[k]'(by rwa [u8s_length] at h) : Nat) := by simp [u8s]

section
variable {ops : Array Oper} {rest : List Oper} {o : Oper} {a : Act} {Q : Exit → Act → World → Prop} {w : World} {v : Value} {l : List Nat}
theorem b_len (x : Operand) (hgd : o.guard = none) (ho : o.op = .call { callee := .builtin .len, args := #[x], argTypes := #[28] }) (hv : a.eval x = v) (h : Byt w v l)
    (k : wpList Try.prog ops Q rest (a.put o.dst (.int .i64 l.length)) w) : wpList Try.prog ops Q (o :: rest) a w :=
  w_len Try.elB x hgd ho hv h (by rw [u8s_length]; exact k)
theorem b_isnil (x : Operand) (n c : Nat) (hgd : o.guard = none) (ho : o.op = .binOp .eql 28 x (.const (.slice none n c)) 28) (hv : a.eval x = v) (h : Byt w v l)
    (k : ∀ b, (b = true → l = []) → wpList Try.prog ops Q rest (a.put o.dst (.bool b)) w) : wpList Try.prog ops Q (o :: rest) a w :=
  w_isnil Try.elB x n c hgd ho hv h fun b hb => k b fun e => by have := (hb e).1; cases l with | nil => rfl | cons x r => simp [u8s] at this
theorem b_cut (x y y' : Operand) (i j : Nat) (hgd : o.guard = none) (ho : o.op = .slice 28 x (some y) (some y') none) (hv : a.eval x = v) (h : Byt w v l) (hy : a.eval y = .int .i64 i) (hy' : a.eval y' = .int .i64 j) (hij : i ≤ j) (hj : j ≤ l.length)
    (k : ∀ v', Byt w v' ((l.take j).drop i) → wpList Try.prog ops Q rest (a.put o.dst v') w) : wpList Try.prog ops Q (o :: rest) a w :=
  w_cut Try.elB x y y' i j hgd ho hv h hy hy' hij (by rw [u8s_length]; exact hj) fun v' h' => k v' (by unfold Byt; rw [← u8s_drop, ← u8s_take]; exact h')
theorem b_from (x y : Operand) (i : Nat) (hgd : o.guard = none) (ho : o.op = .slice 28 x (some y) none none) (hv : a.eval x = v) (h : Byt w v l) (hy : a.eval y = .int .i64 i) (hj : i ≤ l.length)
    (k : ∀ v', Byt w v' (l.drop i) → wpList Try.prog ops Q rest (a.put o.dst v') w) : wpList Try.prog ops Q (o :: rest) a w :=
  w_from Try.elB x y i hgd ho hv h hy (by rw [u8s_length]; exact hj) fun v' h' => k v' (by unfold Byt; rw [← u8s_drop]; exact h')
theorem b_to (x y' : Operand) (j : Nat) (hgd : o.guard = none) (ho : o.op = .slice 28 x none (some y') none) (hv : a.eval x = v) (h : Byt w v l) (hy' : a.eval y' = .int .i64 j) (hj : j ≤ l.length)
    (k : ∀ v', Byt w v' (l.take j) → wpList Try.prog ops Q rest (a.put o.dst v') w) : wpList Try.prog ops Q (o :: rest) a w :=
  w_to Try.elB x y' j hgd ho hv h hy' (by rw [u8s_length]; exact hj) fun v' h' => k v' (by unfold Byt; rw [← u8s_take]; exact h')
theorem b_idx (x y : Operand) (i : Nat) (hgd : o.guard = none) (ho : o.op = .indexAddr 28 x y) (hv : a.eval x = v) (h : Byt w v l) (hy : a.eval y = .int .i64 i) (hi : i < l.length)
    (k : ∀ ad : Addr, w.cell? ad = some (.int .u8 (l[i] : Nat)) → wpList Try.prog ops Q rest (a.put o.dst (.pointer (some ad))) w) : wpList Try.prog ops Q (o :: rest) a w :=
  w_idx Try.elB x y i hgd ho hv h hy (by rw [u8s_length]; exact hi) fun ad hc => k ad (by rw [hc, u8s_get])
end
end Go.Proofs.Ytabbgnlabiakoaa
