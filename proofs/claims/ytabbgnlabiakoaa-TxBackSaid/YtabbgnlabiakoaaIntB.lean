/- Slices of ints: what reads as a list of integers, what the call owns, steps of a walk. -/
import Derived.Test.YtabbgnlabiakoaaBase
namespace Go.Proofs.Ytabbgnlabiakoaa
open Go.RowKit

def i64s (l : List Int) : List Value := l.map (Value.int .i64)
theorem i64s_length (l : List Int) : (i64s l).length = l.length := by simp [i64s]
theorem i64s_append (l m : List Int) : i64s (l ++ m) = i64s l ++ i64s m := by simp [i64s]
theorem i64s_one (l : List Int) : ∀ u ∈ i64s l, u.oneCell' = true := by
  intro u hu; simp only [i64s, List.mem_map] at hu; obtain ⟨n, _, rfl⟩ := hu; rfl
theorem i64s_cells (l : List Int) : ∀ u ∈ i64s l, u.cells = #[u] := by
  intro u hu; simp only [i64s, List.mem_map] at hu; obtain ⟨n, _, rfl⟩ := hu; rfl
def Ints (w : World) (v : Value) (l : List Int) : Prop := Sl w v (i64s l)
def OwnI (base : Nat) (w : World) (v : Value) (l : List Int) : Prop := w.ownsRow base 3 1 v (i64s l).length (i64s l)
theorem Ints.ext {w w' : World} {v : Value} {l : List Int} (h : Ints w v l) (he : Ext w w') : Ints w' v l := Sl.ext h he
theorem Ints.nil (w : World) : Ints w (.slice none 0 0) [] := Sl.nil w
theorem OwnI.ints {base : Nat} {w : World} {v : Value} {l : List Int} (h : OwnI base w v l) : Ints w v l := Sl.of_own h
theorem OwnI.ext {base : Nat} {w w' : World} {v : Value} {l : List Int} (h : OwnI base w v l) (he : Ext w w') : OwnI base w' v l := own_ext h he
theorem OwnI.nil (base : Nat) (w : World) : OwnI base w (.slice none 0 0) [] := own_nil w base _
theorem OwnI.mono {base B : Nat} {w : World} {v : Value} {l : List Int} (h : OwnI base w v l) (hB : B ≤ base) : OwnI B w v l := own_mono h hB
theorem Ints.len_le {w : World} {v : Value} {l : List Int} (h : Ints w v l) : l.length ≤ maxLen := by have := Sl.len_le h; rwa [i64s_length] at this

theorem Try.infoInt : (Try.prog.info? 3).map (fun i => (i.zero, i.size, i.bytes)) = some (some (.int .i64 0), 1, 8) := by kernel_rfl
theorem Try.elI : El Try.prog 53 3 (.int .i64 0) 8 := by
  obtain ⟨i0, hi, hz0, hz1, hz2⟩ := info_parts Try.infoInt
  exact ⟨Try.underlying53, ⟨i0, hi, hz0, hz1, hz2⟩, rfl, by omega⟩

theorem int_one {w : World} {z : Int} : Ints (w.alloc (.cells #[.int .i64 z] 3)) (.slice (some ⟨w.heap.size, 0, none⟩) 1 1) [z] := by
  refine ⟨some ⟨w.heap.size, 0, none⟩, 1, rfl, by simp [i64s], by simp [maxLen], fun k u hk => ⟨_, rfl, ?_⟩⟩
  cases k with
  | zero =>
    have : u = .int .i64 z := by simpa [i64s] using hk.symm
    subst this
    simp [Addr.add, World.cell?_alloc_at]
  | succ k => simp [i64s] at hk
theorem int_empty {w : World} : OwnI w.heap.size (w.alloc (.cells #[] 3)) (.slice (some ⟨w.heap.size, 0, none⟩) 0 0) [] :=
  World.ownsRow_made (base := w.heap.size) w #[] 0 (Nat.le_refl _) (by simp [maxLen]) (by simp)

theorem run_appi {w : World} {base : Nat} {v s : Value} {xs ys : List Int} (ty : TypeId) (hown : OwnI base w v xs) (hs : Ints w s ys) (hlen : (xs.length + ys.length) * 8 ≤ 140737488355328) (hb : base ≤ w.heap.size) :
    ∃ v' w', (Builtin.append_ #[53, 53] ty #[v, s]).run Try.prog w = .ok v' w' ∧ OwnI base w' v' (xs ++ ys) ∧ Below base w w' ∧ w.grownBy w' v.ownBlock ∧ (v'.ownBlock = v.ownBlock ∨ v'.ownBlock = some w.heap.size) := by
  obtain ⟨i0, hi, hz0, hz1, hz2⟩ := info_parts Try.infoInt
  obtain ⟨v', w', h1, h2, h3, h4⟩ := run_append_sl (P := Try.prog) w base 53 ty 3 i0 _ 8 Try.underlying53 hi hz0 hz1 hz2 rfl hown hs (i64s_one ys) (by simp only [i64s_length]; omega) (by omega) hb
  refine ⟨v', w', h1, ?_, below_grown hb hown h3, h3, h4⟩
  unfold OwnI; rw [i64s_append]; exact h2
theorem appi {ops : Array Oper} {rest : List Oper} {o : Oper} {a : Act} {Q : Exit → Act → World → Prop} {w : World} (s x : Operand) (hgd : o.guard = none)
    (ho : o.op = .call { callee := .builtin .append, args := #[s, x], argTypes := #[53, 53] }) {base : Nat} {v sv : Value} {xs ys : List Int} (hv : a.eval s = v) (hx : a.eval x = sv)
    (hown : OwnI base w v xs) (hs : Ints w sv ys) (hlen : (xs.length + ys.length) * 8 ≤ 140737488355328) (hb : base ≤ w.heap.size)
    (h : ∀ v' w', OwnI base w' v' (xs ++ ys) → Below base w w' → w.grownBy w' v.ownBlock → (v'.ownBlock = v.ownBlock ∨ v'.ownBlock = some w.heap.size) → wpList Try.prog ops Q rest (a.put o.dst v') w') : wpList Try.prog ops Q (o :: rest) a w := by
  refine wpList_plain hgd fun K hK => ?_
  obtain ⟨v', w', hr, h2, h3, h4, h5⟩ := run_appi o.type hown hs hlen hb
  unfold Oper.wp execOp
  simp only [ho, resolve, invoke, builtin, Sem.run_bind, Sem.run_pure, Result.andThen_ok, List.map_toArray, List.map_cons, List.map_nil, hv, hx, hr]
  exact hK _ _ (h v' w' h2 h3 h4 h5)

section
variable {ops : Array Oper} {rest : List Oper} {o : Oper} {a : Act} {Q : Exit → Act → World → Prop} {w : World} {v : Value} {l : List Int}
theorem i_len (x : Operand) (hgd : o.guard = none) (ho : o.op = .call { callee := .builtin .len, args := #[x], argTypes := #[53] }) (hv : a.eval x = v) (h : Ints w v l)
    (k : wpList Try.prog ops Q rest (a.put o.dst (.int .i64 l.length)) w) : wpList Try.prog ops Q (o :: rest) a w :=
  w_len Try.elI x hgd ho hv h (by rw [i64s_length]; exact k)
theorem i_idx (x y : Operand) (i : Nat) (hgd : o.guard = none) (ho : o.op = .indexAddr 53 x y) (hv : a.eval x = v) (h : Ints w v l) (hy : a.eval y = .int .i64 i) (hi : i < l.length)
    (k : ∀ ad : Addr, w.cell? ad = some (.int .i64 l[i]) → wpList Try.prog ops Q rest (a.put o.dst (.pointer (some ad))) w) : wpList Try.prog ops Q (o :: rest) a w :=
  w_idx Try.elI x y i hgd ho hv h hy (by rw [i64s_length]; exact hi) fun ad hc => k ad (by rw [hc]; simp [i64s])
end

theorem rptri {o : Oper} {ρ : Operand → Value} {w : World} {v : Value} {l : List Int} (x y : Operand) (ho : o.op = .indexAddr 53 x y) (hv : ρ x = v) (h : Ints w v l) (i : Nat) (hy : ρ y = .int .i64 i) (hi : i < l.length) {u : Int} (hu : l[i] = u) :
    ∃ v', Runs Try.prog o ρ w v' ∧ (Sp.ptr (.int .i64 u)).p v' w := by
  subst hu
  obtain ⟨ad, h1, h2⟩ := runs_idx Try.elI x y ho hv h i hy (by rw [i64s_length]; exact hi)
  exact ⟨_, h1, ad, rfl, by rw [h2]; simp [i64s]⟩
end Go.Proofs.Ytabbgnlabiakoaa
