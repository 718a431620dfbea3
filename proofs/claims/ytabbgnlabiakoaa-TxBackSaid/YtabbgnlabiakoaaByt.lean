/- Slices of bytes in this program: what reads as a list, what the call owns, append as a step of a walk. -/
import Derived.Test.YtabbgnlabiakoaaBase
import Derived.Test.YtabbgnlabiakoaaProg
import Derived.LoopTactic
import Derived.WalkKit
import Derived.WalkSpells
import Derived.Outline
import Derived.Laws.BitsAllLaws
import Derived.Laws.BytesArg
namespace Go.Proofs.Ytabbgnlabiakoaa
open Go.RowKit

/-- Bytes as values. -/
def u8s (l : List Nat) : List Value := l.map fun n : Nat => Value.int .u8 (n : Int)
theorem u8s_length (l : List Nat) : (u8s l).length = l.length := by simp [u8s]
theorem u8s_append (l m : List Nat) : u8s (l ++ m) = u8s l ++ u8s m := by simp [u8s]
theorem u8s_one (l : List Nat) : ∀ u ∈ u8s l, u.oneCell' = true := by
  intro u hu; simp only [u8s, List.mem_map] at hu; obtain ⟨n, _, rfl⟩ := hu; rfl

/-- v reads as the bytes l. -/
def Byt (w : World) (v : Value) (l : List Nat) : Prop := Sl w v (u8s l)
/-- The call owns v, from block base on, and it holds the bytes l. -/
def OwnB (base : Nat) (w : World) (v : Value) (l : List Nat) : Prop := w.ownsRow base 5 1 v (u8s l).length (u8s l)

theorem Byt.ext {w w' : World} {v : Value} {l : List Nat} (h : Byt w v l) (he : Ext w w') : Byt w' v l := Sl.ext h he
theorem Byt.nil (w : World) : Byt w (.slice none 0 0) [] := Sl.nil w
theorem OwnB.byt {base : Nat} {w : World} {v : Value} {l : List Nat} (h : OwnB base w v l) : Byt w v l := Sl.of_own h
theorem OwnB.ext {base : Nat} {w w' : World} {v : Value} {l : List Nat} (h : OwnB base w v l) (he : Ext w w') : OwnB base w' v l := own_ext h he
theorem OwnB.mono {base B : Nat} {w : World} {v : Value} {l : List Nat} (h : OwnB base w v l) (hB : B ≤ base) : OwnB B w v l := own_mono h hB
theorem OwnB.nil (base : Nat) (w : World) : OwnB base w (.slice none 0 0) [] := own_nil w base _
theorem Byt.len_le {w : World} {v : Value} {l : List Nat} (h : Byt w v l) : l.length ≤ maxLen := by have := Sl.len_le h; rwa [u8s_length] at this

/-- A new slice of one byte. -/
theorem byt_one {w : World} {z : Int} {n : Nat} (hz : z = (n : Int)) : Byt (w.alloc (.cells #[.int .u8 z] 5)) (.slice (some ⟨w.heap.size, 0, none⟩) 1 1) [n] := by
  subst hz
  refine ⟨some ⟨w.heap.size, 0, none⟩, 1, rfl, by simp [u8s], by simp [maxLen], fun k u hk => ⟨_, rfl, ?_⟩⟩
  cases k with
  | zero =>
    have : u = .int .u8 (n : Int) := by simpa [u8s] using hk.symm
    subst this
    simp [Addr.add, World.cell?_alloc_at]
  | succ k => simp [u8s] at hk

/-- A new slice of no byte. -/
theorem own_empty {w : World} : OwnB w.heap.size (w.alloc (.cells #[] 5)) (.slice (some ⟨w.heap.size, 0, none⟩) 0 0) [] :=
  World.ownsRow_made (base := w.heap.size) w #[] 0 (Nat.le_refl _) (by simp [maxLen]) (by simp)

theorem Try.infoU8 : (Try.prog.info? 5).map (fun i => (i.zero, i.size, i.bytes)) = some (some (.int .u8 0), 1, 1) := by kernel_rfl

theorem run_appb {w : World} {base : Nat} {v s : Value} {xs ys : List Nat} (ty : TypeId) (hown : OwnB base w v xs) (hs : Byt w s ys) (hlen : xs.length + ys.length ≤ 140737488355328) (hb : base ≤ w.heap.size) :
    ∃ v' w', (Builtin.append_ #[28, 28] ty #[v, s]).run Try.prog w = .ok v' w' ∧ OwnB base w' v' (xs ++ ys) ∧ Below base w w' ∧ w.grownBy w' v.ownBlock := by
  obtain ⟨i0, hi, hz0, hz1, hz2⟩ := info_parts Try.infoU8
  obtain ⟨v', w', h1, h2, h3, _⟩ := run_append_sl (P := Try.prog) w base 28 ty 5 i0 _ 1 Try.underlying28 hi hz0 hz1 hz2 rfl hown hs (u8s_one ys) (by simp only [u8s_length]; omega) (by omega) hb
  refine ⟨v', w', h1, ?_, below_grown hb hown h3, h3⟩
  unfold OwnB; rw [u8s_append]; exact h2

/-- append as a step of a walk. -/
theorem appb {ops : Array Oper} {rest : List Oper} {o : Oper} {a : Act} {Q : Exit → Act → World → Prop} {w : World} (s x : Operand) (hgd : o.guard = none)
    (ho : o.op = .call { callee := .builtin .append, args := #[s, x], argTypes := #[28, 28] }) {base : Nat} {v sv : Value} {xs ys : List Nat} (hv : a.eval s = v) (hx : a.eval x = sv)
    (hown : OwnB base w v xs) (hs : Byt w sv ys) (hlen : xs.length + ys.length ≤ 140737488355328) (hb : base ≤ w.heap.size)
    (h : ∀ v' w', OwnB base w' v' (xs ++ ys) → Below base w w' → w.grownBy w' v.ownBlock → wpList Try.prog ops Q rest (a.put o.dst v') w') : wpList Try.prog ops Q (o :: rest) a w := by
  refine wpList_plain hgd fun K hK => ?_
  obtain ⟨v', w', hr, h2, h3, h4⟩ := run_appb o.type hown hs hlen hb
  unfold Oper.wp execOp
  simp only [ho, resolve, invoke, builtin, Sem.run_bind, Sem.run_pure, Result.andThen_ok, List.map_toArray, List.map_cons, List.map_nil, hv, hx, hr]
  exact hK _ _ (h v' w' h2 h3 h4)
end Go.Proofs.Ytabbgnlabiakoaa
