/- Single operations of a region that draws its order, by kind. -/
import Derived.Test.YtabbgnlabiakoaaStep
namespace Go.Proofs.Ytabbgnlabiakoaa
open Go.RowKit

theorem rcut {o : Oper} {ρ : Operand → Value} {w : World} {v : Value} {l : List Nat} (x : Operand) {lo hi : Option Operand} (ho : o.op = .slice 28 x lo hi none) (hv : ρ x = v) (h : Byt w v l) (i j : Nat)
    (hlo : (∃ y, lo = some y ∧ ρ y = .int .i64 i) ∨ lo = none ∧ i = 0) (hhi : (∃ y, hi = some y ∧ ρ y = .int .i64 j) ∨ hi = none ∧ j = l.length) (hij : i ≤ j) (hj : j ≤ l.length) {L : List Nat} (hL : (l.take j).drop i = L) :
    ∃ v', Runs Try.prog o ρ w v' ∧ Sp.p (.sl (u8s L)) v' w := by
  subst hL
  obtain ⟨v', h1, h2⟩ := runs_cut Try.elB x lo hi ho hv h i j hlo (hhi.imp id fun e => ⟨e.1, by rw [u8s_length]; exact e.2⟩) hij (by rw [u8s_length]; exact hj)
  refine ⟨v', h1, ?_⟩
  show Sl w v' _
  rw [← u8s_drop, ← u8s_take]; exact h2
/-- v reads as the bytes l, and lies from block lo on. -/
def Nb (lo : Nat) (w : World) (v : Value) (l : List Nat) : Prop := Byt w v l ∧ ∀ k, v.ownBlock = some k → lo ≤ k ∧ k < w.heap.size
theorem Nb.ext {lo : Nat} {w w' : World} {v : Value} {l : List Nat} (h : Nb lo w v l) (he : Ext w w') : Nb lo w' v l := ⟨h.1.ext he, fun k hk => ⟨(h.2 k hk).1, Nat.lt_of_lt_of_le (h.2 k hk).2 he.size⟩⟩
theorem Nb.nil (lo : Nat) (w : World) : Nb lo w (.slice none 0 0) [] := ⟨Byt.nil w, fun _ hk => nomatch hk⟩
theorem OwnB.nb {lo : Nat} {w : World} {v : Value} {l : List Nat} (h : OwnB lo w v l) : Nb lo w v l := ⟨h.byt, fun _ hk => own_block_lt h hk⟩
theorem Nb.mono {lo lo' : Nat} {w : World} {v : Value} {l : List Nat} (h : Nb lo w v l) (hl : lo' ≤ lo) : Nb lo' w v l := ⟨h.1, fun k hk => ⟨Nat.le_trans hl (h.2 k hk).1, (h.2 k hk).2⟩⟩
def Sp.nb (lo : Nat) (l : List Nat) : Sp := .any (fun v w => Nb lo w v l) fun _ _ _ h he => h.ext he
theorem rcutN {o : Oper} {ρ : Operand → Value} {w : World} {v : Value} {l : List Nat} {lw : Nat} (x : Operand) {lo hi : Option Operand} (ho : o.op = .slice 28 x lo hi none) (hv : ρ x = v) (h : Nb lw w v l) (i j : Nat)
    (hlo : (∃ y, lo = some y ∧ ρ y = .int .i64 i) ∨ lo = none ∧ i = 0) (hhi : (∃ y, hi = some y ∧ ρ y = .int .i64 j) ∨ hi = none ∧ j = l.length) (hij : i ≤ j) (hj : j ≤ l.length) {L : List Nat} (hL : (l.take j).drop i = L) :
    ∃ v', Runs Try.prog o ρ w v' ∧ Sp.p (.nb lw L) v' w := by
  subst hL
  obtain ⟨v', h1, h2, h3⟩ := runs_cut_own Try.elB x lo hi ho hv h.1 i j hlo (hhi.imp id fun e => ⟨e.1, by rw [u8s_length]; exact e.2⟩) hij (by rw [u8s_length]; exact hj)
  refine ⟨v', h1, ?_, fun k hk => h.2 k (h3 k hk)⟩
  show Sl w v' _
  rw [← u8s_drop, ← u8s_take]; exact h2
theorem runs_lenb {o : Oper} {ρ : Operand → Value} {w : World} {v : Value} {l : List Nat} (x : Operand) (ho : o.op = .call { callee := .builtin .len, args := #[x], argTypes := #[28] }) (hv : ρ x = v) (h : Byt w v l) :
    Runs Try.prog o ρ w (.int .i64 l.length) := by
  have := runs_len Try.elB x ho hv h; rwa [u8s_length] at this
theorem runs_lenbn {o : Oper} {ρ : Operand → Value} {w : World} {v : Value} {l : List Nat} {n : Nat} (x : Operand) (ho : o.op = .call { callee := .builtin .len, args := #[x], argTypes := #[28] }) (hv : ρ x = v) (h : Byt w v l) (hn : l.length = n) :
    Runs Try.prog o ρ w (.int .i64 n) := hn ▸ runs_lenb x ho hv h
/-- A new slice of the bytes l. -/
theorem byt_lit {w : World} (l : List Nat) (hl : l.length ≤ 1000000) {cs : Array Value} {fz : Nat × Nat} (hc : cs = (u8s l).toArray) : Byt (w.alloc (.cells cs 5 fz)) (.slice (some ⟨w.heap.size, 0, none⟩) l.length l.length) l := by
  subst hc
  refine ⟨some ⟨w.heap.size, 0, none⟩, l.length, by rw [u8s_length], by rw [u8s_length]; exact Nat.le_refl _, by simp only [maxLen]; omega, fun k u hk => ⟨_, rfl, ?_⟩⟩
  have hadd : (⟨w.heap.size, 0, none⟩ : Addr).add k = ⟨w.heap.size, k, none⟩ := by unfold Addr.add; split <;> simp_all
  rw [hadd, cell_of_row _ w.heap.size k _ 5 fz (heap_alloc_new w _)]
  simpa using hk


theorem rptr {o : Oper} {ρ : Operand → Value} {w : World} {v : Value} {l : List Nat} (x y : Operand) (ho : o.op = .indexAddr 28 x y) (hv : ρ x = v) (h : Byt w v l) (i : Nat) (hy : ρ y = .int .i64 i) (hi : i < l.length) {u : Nat} (hu : l[i] = u) :
    ∃ v', Runs Try.prog o ρ w v' ∧ (Sp.ptr (.int .u8 (u : Nat))).p v' w := by
  subst hu
  obtain ⟨ad, h1, h2⟩ := runs_idx Try.elB x y ho hv h i hy (by rw [u8s_length]; exact hi)
  exact ⟨_, h1, ad, rfl, by rw [h2, u8s_get]⟩
end Go.Proofs.Ytabbgnlabiakoaa
