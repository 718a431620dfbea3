/- Steps of a walk at slices whose address is not looked at: len, a cut, an index, the comparison with nil, the conversion of bytes to a string, append. -/
import Derived.Test.YtdnppmpgpkpapaaByt
namespace Go.Proofs.Ytdnppmpgpkpapaa
open Go.RowKit

def Runs (P : Program) (o : Oper) (ρ : Operand → Value) (w : World) (v : Value) : Prop := (execOp ρ o).run P w = .ok (.value v) w

theorem wpList_runs {P : Program} {ops : Array Oper} {rest : List Oper} {o : Oper} {a : Act} {Q : Exit → Act → World → Prop} {w : World} {v : Value} (hgd : o.guard = none) (h : Runs P o a.eval w v)
    (hr : wpList P ops Q rest (a.put o.dst v) w) : wpList P ops Q (o :: rest) a w :=
  wpList_plain hgd fun K hK => by unfold Oper.wp; rw [h]; exact hK _ _ hr

/-- A slice type whose elements take one cell. -/
structure El (P : Program) (t e : TypeId) (z : Value) (bytes : Nat) : Prop where
  hu : P.underlying t = some (.slice e)
  info : ∃ i : TypeInfo, P.info? e = some i ∧ i.zero = some z ∧ i.size = 1 ∧ i.bytes = bytes
  one : z.cells.size = 1
  pos : 0 < bytes

theorem Try.elB : El Try.prog 26 5 (.int .u8 0) 1 := by
  obtain ⟨i0, hi, hz0, hz1, hz2⟩ := info_parts Try.infoU8
  exact ⟨Try.underlying26, ⟨i0, hi, hz0, hz1, hz2⟩, rfl, by omega⟩

section
variable {P : Program} {o : Oper} {ρ : Operand → Value} {w : World} {v : Value} {xs : List Value} {t e : TypeId} {z : Value} {bytes : Nat}

theorem runs_len (E : El P t e z bytes) (x : Operand) (ho : o.op = .call { callee := .builtin .len, args := #[x], argTypes := #[t] }) (hv : ρ x = v) (h : Sl w v xs) :
    Runs P o ρ w (.int .i64 xs.length) := by
  obtain ⟨A, c, rfl, _⟩ := h
  have hu := E.hu
  unfold Runs execOp
  simp [ho, resolve, invoke, builtin, hv, run_len_slice, go_sem, hu]

/-- v[lo:hi] -/
theorem runs_cut (E : El P t e z bytes) (x : Operand) (lo hi : Option Operand) (ho : o.op = .slice t x lo hi none) (hv : ρ x = v) (h : Sl w v xs) (i j : Nat)
    (hlo : (∃ y, lo = some y ∧ ρ y = .int .i64 i) ∨ lo = none ∧ i = 0) (hhi : (∃ y, hi = some y ∧ ρ y = .int .i64 j) ∨ hi = none ∧ j = xs.length) (hij : i ≤ j) (hj : j ≤ xs.length) :
    ∃ v', Runs P o ρ w v' ∧ Sl w v' ((xs.take j).drop i) := by
  obtain ⟨A, c, rfl, h1, h2, h3⟩ := h
  obtain ⟨i0, hi0, _, hsz, _⟩ := E.info
  have hu := E.hu
  have key : Sl w (.slice (if c = i then A else A.map (·.add (i * 1))) (j - i) (c - i)) ((xs.take j).drop i) := by
    have hl : ((xs.take j).drop i).length = j - i := by simp; omega
    refine ⟨_, c - i, by rw [hl], by rw [hl]; omega, by omega, fun k u hk => ?_⟩
    rw [List.getElem?_drop, List.getElem?_take] at hk
    split at hk
    · obtain ⟨ad, rfl, hc⟩ := h3 _ u hk
      have hlt : i + k < xs.length := (List.getElem?_eq_some_iff.1 hk).1
      refine ⟨ad.add i, by rw [if_neg (by omega)]; simp, by rw [add_add']; exact hc⟩
    · cases hk
  refine ⟨_, ?_, key⟩
  unfold Runs execOp
  have b1 : ∀ (y : Nat) (code : BoundsCode) (n : Nat), n ≤ y → (Instr.sliceBound (.int .i64 (n : Int)) y code).run P w = .ok n w := fun y code n hn => by
    simp [Instr.sliceBound, go_sem]; omega
  rcases hlo with ⟨y, rfl, hy⟩ | ⟨rfl, rfl⟩ <;> rcases hhi with ⟨y', rfl, hy'⟩ | ⟨rfl, rfl⟩
  · simp [ho, hv, hy, hy', Instr.sliceAt, Instr.slice, run_underlying hu, Instr.sliceBounds, sizeOf, typeInfo, hi0, hsz, b1 c .sliceAcap j (by omega), b1 j .sliceB i hij]
  · simp [ho, hv, hy, Instr.sliceAt, Instr.slice, run_underlying hu, Instr.sliceBounds, sizeOf, typeInfo, hi0, hsz, b1 xs.length .sliceB i hij]
  · simp [ho, hv, hy', Instr.sliceAt, Instr.slice, run_underlying hu, Instr.sliceBounds, sizeOf, typeInfo, hi0, b1 c .sliceAcap j (by omega)]
  · simp [ho, hv, Instr.sliceAt, Instr.slice, run_underlying hu, Instr.sliceBounds, sizeOf, typeInfo, hi0]

/-- &v[i] -/
theorem runs_idx (E : El P t e z bytes) (x y : Operand) (ho : o.op = .indexAddr t x y) (hv : ρ x = v) (h : Sl w v xs) (i : Nat) (hy : ρ y = .int .i64 i) (hi : i < xs.length) :
    ∃ ad, Runs P o ρ w (.pointer (some ad)) ∧ w.cell? ad = some xs[i] := by
  obtain ⟨A, c, rfl, h1, h2, h3⟩ := h
  obtain ⟨i0, hi0, _, hsz, _⟩ := E.info
  have hu := E.hu
  obtain ⟨ad, rfl, hc⟩ := h3 i _ (List.getElem?_eq_getElem hi)
  refine ⟨_, ?_, hc⟩
  unfold Runs execOp
  simp [ho, hv, hy, Instr.indexAt, run_underlying hu, sizeOf, typeInfo, hi0, hsz, go_sem, hi]

/-- v == nil -/
theorem runs_isnil (E : El P t e z bytes) (x : Operand) (n c : Nat) (ho : o.op = .binOp .eql t x (.const (.slice none n c)) t) (hc : ρ (.const (.slice none n c)) = .slice none n c) (hv : ρ x = v) (h : Sl w v xs) :
    ∃ b, Runs P o ρ w (.bool b) ∧ (b = true → xs = [] ∧ ∃ n' c', v = .slice none n' c') := by
  obtain ⟨A, c, rfl, h1, h2, h3⟩ := h
  refine ⟨A.isNone, ?_, fun hb => ?_⟩
  · unfold Runs execOp
    simp [ho, hv, hc, eqGuard, Lib.run_eql_slice_nil _ _ _ _ _ _ _ _ E.hu]
  · have : A = none := by simpa using hb
    subst this
    refine ⟨?_, _, _, rfl⟩
    cases xs with
    | nil => rfl
    | cons u r => obtain ⟨ad, e, _⟩ := h3 0 u rfl; cases e
end

/-- The bytes l as a string. -/
def strN (l : List Nat) : ByteArray := ⟨(l.map fun n => UInt8.ofNat n).toArray⟩
theorem strN_inj {l m : List Nat} (hl : ∀ x ∈ l, x < 256) (hm : ∀ x ∈ m, x < 256) (h : strN l = strN m) : l = m := by
  have h' : l.map (fun n => UInt8.ofNat n) = m.map (fun n => UInt8.ofNat n) := by
    have := congrArg (fun b : ByteArray => b.data.toList) h; simpa [strN] using this
  have h2 := congrArg (List.map UInt8.toNat) h'
  simp only [List.map_map] at h2
  have hid : ∀ k : List Nat, (∀ x ∈ k, x < 256) → k.map (UInt8.toNat ∘ fun n => UInt8.ofNat n) = k := fun k hk => by
    conv => rhs; rw [← List.map_id k]
    refine List.map_congr_left fun x hx => ?_
    simp [Nat.mod_eq_of_lt (show x < 2 ^ 8 from hk x hx)]
  rwa [hid l hl, hid m hm] at h2
theorem strN_append (l m : List Nat) : strN (l ++ m) = strN l ++ strN m := by
  apply ByteArray.ext; simp [strN]

theorem runs_str {o : Oper} {ρ : Operand → Value} {w : World} {v : Value} {l : List Nat} (x : Operand) (ho : o.op = .convert 26 9 x) (hv : ρ x = v) (h : Byt w v l) :
    Runs Try.prog o ρ w (.string (strN l)) := by
  obtain ⟨A, c, rfl, h1, h2, h3⟩ := h
  unfold Runs execOp
  have hl : ∀ A : Option Addr, (∀ k u, (u8s l)[k]? = some u → ∃ ad : Addr, A = some ad ∧ w.cell? (ad.add k) = some u) →
      (convert 26 9 (.slice A (u8s l).length c)).run Try.prog w = .ok (.string (strN l)) w := by
    intro A h3
    cases A with
    | none =>
      have : l = [] := by
        cases l with
        | nil => rfl
        | cons x r => obtain ⟨ad, e, _⟩ := h3 0 _ rfl; cases e
      subst this
      exact run_convert_bytes_nil w 26 5 Try.underlying26 Try.underlying5 _ _ _ Try.underlying9
    | some ad =>
      have hlc : (loadCells ad l.length).run Try.prog w = .ok ((l.map fun n : Nat => (n : Int)).map (Value.int .u8)).toArray w := by
        have := run_loadCells_list (P := Try.prog) w ad (u8s l) (fun j u hj => by obtain ⟨ad', e, hc⟩ := h3 j u hj; injection e with e; subst e; exact hc)
        rw [u8s_length] at this
        rw [this]; simp [u8s]
      rw [run_convert_bytes_string w 26 9 5 _ _ c Try.underlying26 Try.underlying5 Try.underlying9, u8s_length, run_bytesToString w ad l.length c _ hlc, foldl_push_bytes]
      simp [strN, ByteArray.empty, ByteArray.emptyWithCapacity]
      rfl
  simp [ho, hv, hl A h3]

/-! ### The same as steps of a walk -/
section
variable {P : Program} {ops : Array Oper} {rest : List Oper} {o : Oper} {a : Act} {Q : Exit → Act → World → Prop} {w : World} {v : Value} {xs : List Value} {t e : TypeId} {z : Value} {bytes : Nat}
theorem w_len (E : El P t e z bytes) (x : Operand) (hgd : o.guard = none) (ho : o.op = .call { callee := .builtin .len, args := #[x], argTypes := #[t] }) (hv : a.eval x = v) (h : Sl w v xs)
    (k : wpList P ops Q rest (a.put o.dst (.int .i64 xs.length)) w) : wpList P ops Q (o :: rest) a w :=
  wpList_runs hgd (runs_len E x ho hv h) k
theorem w_isnil (E : El P t e z bytes) (x : Operand) (n c : Nat) (hgd : o.guard = none) (ho : o.op = .binOp .eql t x (.const (.slice none n c)) t) (hv : a.eval x = v) (h : Sl w v xs)
    (k : ∀ b, (b = true → xs = [] ∧ ∃ n' c', v = .slice none n' c') → wpList P ops Q rest (a.put o.dst (.bool b)) w) : wpList P ops Q (o :: rest) a w := by
  obtain ⟨b, hr, hb⟩ := runs_isnil E x n c ho rfl hv h
  exact wpList_runs hgd hr (k b hb)
theorem w_cut (E : El P t e z bytes) (x y y' : Operand) (i j : Nat) (hgd : o.guard = none) (ho : o.op = .slice t x (some y) (some y') none) (hv : a.eval x = v) (h : Sl w v xs) (hy : a.eval y = .int .i64 i) (hy' : a.eval y' = .int .i64 j) (hij : i ≤ j) (hj : j ≤ xs.length)
    (k : ∀ v', Sl w v' ((xs.take j).drop i) → wpList P ops Q rest (a.put o.dst v') w) : wpList P ops Q (o :: rest) a w := by
  obtain ⟨v', hr, hb⟩ := runs_cut E x _ _ ho hv h i j (.inl ⟨y, rfl, hy⟩) (.inl ⟨y', rfl, hy'⟩) hij hj
  exact wpList_runs hgd hr (k v' hb)
theorem w_from (E : El P t e z bytes) (x y : Operand) (i : Nat) (hgd : o.guard = none) (ho : o.op = .slice t x (some y) none none) (hv : a.eval x = v) (h : Sl w v xs) (hy : a.eval y = .int .i64 i) (hj : i ≤ xs.length)
    (k : ∀ v', Sl w v' (xs.drop i) → wpList P ops Q rest (a.put o.dst v') w) : wpList P ops Q (o :: rest) a w := by
  obtain ⟨v', hr, hb⟩ := runs_cut E x _ _ ho hv h i xs.length (.inl ⟨y, rfl, hy⟩) (.inr ⟨rfl, rfl⟩) hj (Nat.le_refl _)
  exact wpList_runs hgd hr (k v' (by simpa using hb))
theorem w_to (E : El P t e z bytes) (x y' : Operand) (j : Nat) (hgd : o.guard = none) (ho : o.op = .slice t x none (some y') none) (hv : a.eval x = v) (h : Sl w v xs) (hy' : a.eval y' = .int .i64 j) (hj : j ≤ xs.length)
    (k : ∀ v', Sl w v' (xs.take j) → wpList P ops Q rest (a.put o.dst v') w) : wpList P ops Q (o :: rest) a w := by
  obtain ⟨v', hr, hb⟩ := runs_cut E x _ _ ho hv h 0 j (.inr ⟨rfl, rfl⟩) (.inl ⟨y', rfl, hy'⟩) (Nat.zero_le _) hj
  exact wpList_runs hgd hr (k v' (by simpa using hb))
theorem w_idx (E : El P t e z bytes) (x y : Operand) (i : Nat) (hgd : o.guard = none) (ho : o.op = .indexAddr t x y) (hv : a.eval x = v) (h : Sl w v xs) (hy : a.eval y = .int .i64 i) (hi : i < xs.length)
    (k : ∀ ad : Addr, w.cell? ad = some xs[i] → wpList P ops Q rest (a.put o.dst (.pointer (some ad))) w) : wpList P ops Q (o :: rest) a w := by
  obtain ⟨ad, hr, hc⟩ := runs_idx E x y ho hv h i hy hi
  exact wpList_runs hgd hr (k ad hc)
end
theorem w_str {ops : Array Oper} {rest : List Oper} {o : Oper} {a : Act} {Q : Exit → Act → World → Prop} {w : World} {v : Value} {l : List Nat} (x : Operand) (hgd : o.guard = none) (ho : o.op = .convert 26 9 x) (hv : a.eval x = v) (h : Byt w v l)
    (k : wpList Try.prog ops Q rest (a.put o.dst (.string (strN l))) w) : wpList Try.prog ops Q (o :: rest) a w :=
  wpList_runs hgd (runs_str x ho hv h) k

theorem u8s_drop (l : List Nat) (k : Nat) : (u8s l).drop k = u8s (l.drop k) := by simp [u8s]
theorem u8s_take (l : List Nat) (k : Nat) : (u8s l).take k = u8s (l.take k) := by simp [u8s]
theorem u8s_get (l : List Nat) (k : Nat) (h : k < (u8s l).length) : (u8s l)[k] = .int .u8 (l[k]'(by rwa [u8s_length] at h) : Nat) := by simp [u8s]

section
variable {ops : Array Oper} {rest : List Oper} {o : Oper} {a : Act} {Q : Exit → Act → World → Prop} {w : World} {v : Value} {l : List Nat}
theorem b_len (x : Operand) (hgd : o.guard = none) (ho : o.op = .call { callee := .builtin .len, args := #[x], argTypes := #[26] }) (hv : a.eval x = v) (h : Byt w v l)
    (k : wpList Try.prog ops Q rest (a.put o.dst (.int .i64 l.length)) w) : wpList Try.prog ops Q (o :: rest) a w :=
  w_len Try.elB x hgd ho hv h (by rw [u8s_length]; exact k)
theorem b_isnil (x : Operand) (n c : Nat) (hgd : o.guard = none) (ho : o.op = .binOp .eql 26 x (.const (.slice none n c)) 26) (hv : a.eval x = v) (h : Byt w v l)
    (k : ∀ b, (b = true → l = []) → wpList Try.prog ops Q rest (a.put o.dst (.bool b)) w) : wpList Try.prog ops Q (o :: rest) a w :=
  w_isnil Try.elB x n c hgd ho hv h fun b hb => k b fun e => by have := (hb e).1; cases l with | nil => rfl | cons x r => simp [u8s] at this
theorem b_cut (x y y' : Operand) (i j : Nat) (hgd : o.guard = none) (ho : o.op = .slice 26 x (some y) (some y') none) (hv : a.eval x = v) (h : Byt w v l) (hy : a.eval y = .int .i64 i) (hy' : a.eval y' = .int .i64 j) (hij : i ≤ j) (hj : j ≤ l.length)
    (k : ∀ v', Byt w v' ((l.take j).drop i) → wpList Try.prog ops Q rest (a.put o.dst v') w) : wpList Try.prog ops Q (o :: rest) a w :=
  w_cut Try.elB x y y' i j hgd ho hv h hy hy' hij (by rw [u8s_length]; exact hj) fun v' h' => k v' (by unfold Byt; rw [← u8s_drop, ← u8s_take]; exact h')
theorem b_from (x y : Operand) (i : Nat) (hgd : o.guard = none) (ho : o.op = .slice 26 x (some y) none none) (hv : a.eval x = v) (h : Byt w v l) (hy : a.eval y = .int .i64 i) (hj : i ≤ l.length)
    (k : ∀ v', Byt w v' (l.drop i) → wpList Try.prog ops Q rest (a.put o.dst v') w) : wpList Try.prog ops Q (o :: rest) a w :=
  w_from Try.elB x y i hgd ho hv h hy (by rw [u8s_length]; exact hj) fun v' h' => k v' (by unfold Byt; rw [← u8s_drop]; exact h')
theorem b_to (x y' : Operand) (j : Nat) (hgd : o.guard = none) (ho : o.op = .slice 26 x none (some y') none) (hv : a.eval x = v) (h : Byt w v l) (hy' : a.eval y' = .int .i64 j) (hj : j ≤ l.length)
    (k : ∀ v', Byt w v' (l.take j) → wpList Try.prog ops Q rest (a.put o.dst v') w) : wpList Try.prog ops Q (o :: rest) a w :=
  w_to Try.elB x y' j hgd ho hv h hy' (by rw [u8s_length]; exact hj) fun v' h' => k v' (by unfold Byt; rw [← u8s_take]; exact h')
theorem b_idx (x y : Operand) (i : Nat) (hgd : o.guard = none) (ho : o.op = .indexAddr 26 x y) (hv : a.eval x = v) (h : Byt w v l) (hy : a.eval y = .int .i64 i) (hi : i < l.length)
    (k : ∀ ad : Addr, w.cell? ad = some (.int .u8 (l[i] : Nat)) → wpList Try.prog ops Q rest (a.put o.dst (.pointer (some ad))) w) : wpList Try.prog ops Q (o :: rest) a w :=
  w_idx Try.elB x y i hgd ho hv h hy (by rw [u8s_length]; exact hi) fun ad hc => k ad (by rw [hc, u8s_get])
end
/-- What a contract promises, kept from the walk. -/
def Keep (R : Ending → World → Prop) : Ending → World → Prop := R
theorem Keep.intro {R : Ending → World → Prop} {e : Ending} {w : World} (h : R e w) : Keep R e w := h
theorem calls_keep {P : Program} {f : FuncId} {args : Array Value} {w : World} {R : Ending → World → Prop} (h : Calls P f args w (Keep R)) : Calls P f args w R := h
theorem hide_ {p : Prop} (h : p) : Hid p := h
end Go.Proofs.Ytdnppmpgpkpapaa
