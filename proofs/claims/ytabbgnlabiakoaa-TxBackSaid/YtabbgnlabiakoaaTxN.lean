/- Transactions and lists of them as bytes, as plain mathematics: what is written is read, and nothing else is. No program. -/
import Derived.Test.YtabbgnlabiakoaaJrnM
namespace Go.Proofs.Ytabbgnlabiakoaa

theorem nuL_app : ∀ l m : List Int, nuL (l ++ m) = nuL l ++ nuL m
  | [], m => rfl
  | x :: l, m => by rw [List.cons_append, nuL, nuL, nuL_app l m, List.append_assoc]
/-- Numbers that can be read. -/
def Rdb (xs : List Int) : Prop := ∀ x ∈ xs, -1 ≤ x ∧ x ≤ 4611686018427387904
theorem Rdb.sml {xs : List Int} (h : Rdb xs) : sml xs = true := by
  simp only [Go.Proofs.Ytabbgnlabiakoaa.sml, List.all_eq_true, decide_eq_true_eq]
  exact fun x hx => (h x hx).2
theorem rns_yes {xs : List Int} (h : Rdb xs) (s : List Nat) : rns xs.length (nuL xs ++ s) = some (xs, s) := by
  rw [rns_nuL xs s fun x hx => by have := h x hx; omega, if_pos h.sml]
/-- Fewer numbers than there are: the others are left. -/
theorem rns_few {xs ys : List Int} (h : Rdb (xs ++ ys)) (s : List Nat) : rns xs.length (nuL (xs ++ ys) ++ s) = some (xs, nuL ys ++ s) := by
  rw [nuL_app, List.append_assoc]
  exact rns_yes (fun x hx => h x (List.mem_append_left _ hx)) _
theorem nuL_pos {xs : List Int} (h : xs ≠ []) : nuL xs ≠ [] := by
  cases xs with
  | nil => exact absurd rfl h
  | cons x r =>
    intro e
    have h1 := congrArg List.length e
    have h2 := numL_pos (x + 1).toNat
    rw [nuL, List.length_append, List.length_nil] at h1
    omega
/-- So many numbers and nothing behind them: just one list has these bytes. -/
theorem nuL_inj {xs ys : List Int} (hx : Rdb xs) (hy : Rdb ys) (h : nuL xs = nuL ys) : xs = ys := by
  rcases Nat.le_total xs.length ys.length with hl | hl
  · have e := rns_few (xs := ys.take xs.length) (ys := ys.drop xs.length) (by rw [List.take_append_drop]; exact hy) []
    rw [List.take_append_drop, ← h, List.length_take, Nat.min_eq_left hl, rns_yes hx []] at e
    simp only [Option.some.injEq, Prod.mk.injEq, List.append_nil] at e
    by_cases hd : ys.drop xs.length = []
    · rw [e.1]; conv => rhs; rw [← List.take_append_drop xs.length ys, hd, List.append_nil]
    · exact absurd e.2.symm (nuL_pos hd)
  · have e := rns_few (xs := xs.take ys.length) (ys := xs.drop ys.length) (by rw [List.take_append_drop]; exact hx) []
    rw [List.take_append_drop, h, List.length_take, Nat.min_eq_left hl, rns_yes hy []] at e
    simp only [Option.some.injEq, Prod.mk.injEq, List.append_nil] at e
    by_cases hd : xs.drop ys.length = []
    · rw [e.1]; conv => lhs; rw [← List.take_append_drop ys.length xs, hd, List.append_nil]
    · exact absurd e.2.symm (nuL_pos hd)

structure TxD where
  id : Int
  fee : Int
deriving DecidableEq
namespace TxD
def Right (t : TxD) : Prop := 1 ≤ t.id ∧ t.id ≤ 1000000 ∧ 0 ≤ t.fee ∧ t.fee ≤ 1000
instance (t : TxD) : Decidable t.Right := by unfold Right; exact inferInstance
def nums (t : TxD) : List Int := [t.id, t.fee]
/-- Does it go ahead? -/
def less (a b : TxD) : Bool := if a.fee ≠ b.fee then decide (b.fee < a.fee) else decide (a.id < b.id)
theorem less_irrefl (a : TxD) : less a a = false := by simp [less]
theorem less_trans {a b c : TxD} (h : less a b = true) (k : less b c = true) : less a c = true := by
  unfold less at *
  split at h <;> split at k <;> split <;> simp at * <;> omega
theorem less_one (a b : TxD) : ¬ (less a b = true ∧ less b a = true) := fun ⟨h, k⟩ => by
  have := less_trans h k; rw [less_irrefl] at this; cases this
theorem less_tot {a b : TxD} (h : less a b = false) (k : less b a = false) : a = b := by
  cases a; cases b
  unfold less at *
  split at h <;> split at k <;> simp at * <;> omega
theorem Right.rdb {t : TxD} (h : t.Right) : Rdb t.nums := fun x hx => by
  obtain ⟨h1, h2, h3, h4⟩ := h
  simp [nums] at hx
  rcases hx with rfl | rfl <;> omega
end TxD
/-- The transaction of bytes. -/
def rdTx (b : List Nat) : Option TxD := match rns 2 b with
  | some ([i, f], []) => if (⟨i, f⟩ : TxD).Right then some ⟨i, f⟩ else none
  | _ => none
theorem rdTx_yes {t : TxD} (h : t.Right) : rdTx (nuL t.nums) = some t := by
  have e := rns_yes h.rdb []
  rw [List.append_nil] at e
  have e2 : rns 2 (nuL t.nums) = some ([t.id, t.fee], []) := e
  unfold rdTx
  rw [e2]
  exact if_pos h
theorem rdTx_some {b : List Nat} (hb : ∀ x ∈ b, x < 256) {t : TxD} (h : rdTx b = some t) : t.Right ∧ b = nuL t.nums := by
  unfold rdTx at h
  split at h
  · rename_i i f hr
    split at h
    · rename_i hc
      cases h
      obtain ⟨h1, _, _⟩ := rns_was 2 b _ _ hb hr
      exact ⟨hc, by rw [List.append_nil] at h1; exact h1⟩
    · cases h
  · cases h

/-! ### Lists -/
def txNums (l : List TxD) : List Int := (l.map TxD.nums).flatten
def lsNums (l : List TxD) : List Int := (l.length : Int) :: txNums l
def lsB (l : List TxD) : List Nat := nuL (lsNums l)
structure LsOk (l : List TxD) : Prop where
  len : l.length ≤ 3
  right : ∀ t ∈ l, t.Right
  ids : (l.map TxD.id).Nodup
instance (l : List TxD) : Decidable (LsOk l) :=
  decidable_of_iff (l.length ≤ 3 ∧ (∀ t ∈ l, t.Right) ∧ (l.map TxD.id).Nodup) ⟨fun ⟨a, b, c⟩ => ⟨a, b, c⟩, fun ⟨a, b, c⟩ => ⟨a, b, c⟩⟩
theorem txNums_len (l : List TxD) : (txNums l).length = 2 * l.length := by
  induction l with
  | nil => rfl
  | cons t l ih => simp only [txNums, List.map_cons, List.flatten_cons, List.length_append, List.length_cons, TxD.nums, List.length_nil] at ih ⊢; omega
theorem txNums_cons (t : TxD) (l : List TxD) : txNums (t :: l) = t.id :: t.fee :: txNums l := rfl
theorem txNums_inj : ∀ {l m : List TxD}, txNums l = txNums m → l = m
  | [], [], _ => rfl
  | [], t :: m, h => by simp [txNums, TxD.nums] at h
  | t :: l, [], h => by simp [txNums, TxD.nums] at h
  | t :: l, u :: m, h => by
    rw [txNums_cons, txNums_cons] at h
    injection h with h1 h2
    injection h2 with h2 h3
    have := txNums_inj h3
    subst this
    cases t; cases u; simp at h1 h2; subst h1 h2; rfl
theorem LsOk.rdb {l : List TxD} (h : LsOk l) : Rdb (lsNums l) := by
  have hl := h.len
  intro x hx
  rcases List.mem_cons.1 hx with rfl | hx
  · omega
  · unfold txNums at hx
    obtain ⟨y, hy, hxy⟩ := List.mem_flatten.1 hx
    obtain ⟨t, ht, rfl⟩ := List.mem_map.1 hy
    exact (h.right t ht).rdb x hxy
/-- Unlike lists have unlike bytes. -/
theorem lsB_inj {l m : List TxD} (hl : LsOk l) (hm : LsOk m) (h : lsB l = lsB m) : l = m := by
  have := nuL_inj hl.rdb hm.rdb h
  injection this with _ h2
  exact txNums_inj h2
/-- Just these bytes are read as l. -/
def IsLs (b : List Nat) (l : List TxD) : Prop := LsOk l ∧ b = lsB l
theorem IsLs.one {b : List Nat} {l m : List TxD} (h : IsLs b l) (k : IsLs b m) : l = m := lsB_inj h.1 k.1 (h.2.symm.trans k.2)
/-- So many numbers are read of a list's bytes: fewer leave some, more can't be. -/
theorem rns_ls {l : List TxD} (h : LsOk l) : rns (1 + 2 * l.length) (lsB l) = some (lsNums l, []) := by
  have e := rns_yes h.rdb []
  rw [List.append_nil] at e
  have hl : (lsNums l).length = 1 + 2 * l.length := by simp [lsNums, txNums_len]; omega
  rw [← hl]; exact e
theorem rns_ls_less {l : List TxD} (h : LsOk l) {n : Nat} (hn : n < l.length) : ∃ s, rns (1 + 2 * n) (lsB l) = some ((lsNums l).take (1 + 2 * n), s) ∧ s ≠ [] := by
  have hl : (lsNums l).length = 1 + 2 * l.length := by simp [lsNums, txNums_len]; omega
  have e := rns_few (xs := (lsNums l).take (1 + 2 * n)) (ys := (lsNums l).drop (1 + 2 * n)) (by rw [List.take_append_drop]; exact h.rdb) []
  rw [List.take_append_drop, List.append_nil, List.append_nil, List.length_take, Nat.min_eq_left (by omega)] at e
  exact ⟨_, e, nuL_pos (by intro e2; have := congrArg List.length e2; rw [List.length_drop] at this; simp at this; omega)⟩
/-- What so many numbers say, if nothing is behind them. -/
theorem ls_of_rns {b : List Nat} (hb : ∀ x ∈ b, x < 256) {n : Nat} {xs : List Int} (h : rns n b = some (xs, [])) : b = nuL xs ∧ xs.length = n := by
  obtain ⟨h1, h2, _⟩ := rns_was n b xs [] hb h
  rw [List.append_nil] at h1
  exact ⟨h1, h2⟩
end Go.Proofs.Ytabbgnlabiakoaa
