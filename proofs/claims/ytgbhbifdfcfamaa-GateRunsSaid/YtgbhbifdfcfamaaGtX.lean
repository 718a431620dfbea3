/- append([]T{}, v...): all of it is new. -/
import Derived.Test.YtgbhbifdfcfamaaFC
import Derived.Test.YtgbhbifdfcfamaaFD
import Derived.Deep.Upon
namespace Go.Proofs.Ytgbhbifdfcfamaa
set_option maxRecDepth 100000
open Go.RowKit

section
variable {P : Program} {ops : Array Oper} {rest : List Oper} {o : Oper} {a : Act} {Q : Exit → Act → World → Prop} {w : World} {t e : TypeId} {z : Value} {bytes : Nat}
/-- []T{} -/
theorem w_empt (E : El P t e z bytes) (hgd : o.guard = none) (ho : o.op = .buildSlice t 0 #[])
    (k : ∀ g w', w.heap.size ≤ g → Ext w w' → w'.ownsRow g e 1 (.slice (some ⟨g, 0, none⟩) 0 0) 0 [] → wpList P ops Q rest (a.put o.dst (.slice (some ⟨g, 0, none⟩) 0 0)) w') : wpList P ops Q (o :: rest) a w :=
  w_build E 0 #[] [] hgd ho rfl (by simp) rfl (by omega) (k _ _ (Nat.le_refl _) ((Ext.refl w).alloc _) (own_new (w := w) (e := e) [] (by simp)))
theorem own_rebase {base b' : Nat} {v : Value} {n : Nat} {xs : List Value} (h : w.ownsRow base e 1 v n xs) (hb : ∀ k, v.ownBlock = some k → b' ≤ k) : w.ownsRow b' e 1 v n xs := by
  obtain ⟨hl, hn | ⟨g, cap, cur, hv, _, rest⟩⟩ := h
  · exact ⟨hl, .inl hn⟩
  · exact ⟨hl, .inr ⟨g, cap, cur, hv, hb g (by rw [hv]; rfl), rest⟩⟩
theorem run_appE (E : El P t e z bytes) (ty : TypeId) {g : Nat} {s : Value} {ys : List Value} (h : w.ownsRow g e 1 (.slice (some ⟨g, 0, none⟩) 0 0) 0 []) (hs : Sl w s ys) (h1 : ∀ u ∈ ys, u.oneCell' = true) (hb : ys.length * bytes ≤ 140737488355328) :
    ∃ v' w', (Builtin.append_ #[t, t] ty #[.slice (some ⟨g, 0, none⟩) 0 0, s]).run P w = .ok v' w' ∧ Ext w w' ∧ w'.ownsRow g e 1 v' ys.length ys := by
  have hgl : g < w.heap.size := (h.lt g rfl).2
  obtain ⟨v', w', hr, hm, hrow, _⟩ := run_app E ty (F := fun k => k = g) ⟨own_mono h (Nat.zero_le _), fun k hk => by injection hk with hk; exact hk.symm⟩ hs h1 (by simpa using hb)
  have hown : w'.ownsRow g e 1 v' ys.length ys := own_rebase (by have := hrow.own; rwa [List.nil_append] at this) fun k hk => by
    rcases hrow.inF k hk with h2 | h2
    · exact Nat.le_of_eq h2.symm
    · omega
  obtain ⟨i, hi, hz, hsz, hby⟩ := E.info
  refine ⟨v', w', hr, ?_, hown⟩
  obtain ⟨A, c, rfl, k1, k2, k3⟩ := hs
  by_cases hy : ys = []
  · subst hy
    have hsrc : Src P i.size t (.slice A 0 c) 0 [] w := by
      cases A with
      | none => exact Src.ofNil w E.hu c
      | some ad => exact Src.ofSlice w E.hu ad 0 c [] (by simp) (by simp) (by simp)
    have := run_append_nothing w t t ty e i E.hu hi (some ⟨g, 0, none⟩) 0 0 (Nat.le_refl _) _ hsrc
    rw [show (.slice A ([] : List Value).length c : Value) = .slice A 0 c from rfl, this] at hr
    injection hr with e1 e2
    subst e2
    exact Ext.refl w
  · cases A with
    | none =>
      obtain ⟨y, r, rfl⟩ := List.exists_cons_of_ne_nil hy
      obtain ⟨ad, e1, _⟩ := k3 0 y rfl
      cases e1
    | some ad =>
      have hpos : 0 < ys.length := List.length_pos_iff.2 hy
      have hle : ys.length * 1 ≤ ys.length * bytes := Nat.mul_le_mul_left _ E.pos
      have hg := run_append_grow (P := P) w t ty e i z E.hu hi hz ⟨g, 0, none⟩ 0 0 [] (by simp) (by intro j v hj; simp at hj) ad ys.length c ys (by rw [hsz]; simp) (fun j u hj => by obtain ⟨ad', e1, hc⟩ := k3 j u hj; injection e1 with e1; subst e1; exact hc) (by omega) (by omega) (growslice_fits (by omega) (by rw [hby]; simpa using hb))
      rw [hg] at hr
      injection hr with e1 e2
      subst e2
      exact (Ext.refl w).drew.trans ((Ext.refl _).alloc _)
/-- append([]T{}, v...) -/
theorem w_appE (E : El P t e z bytes) (x y : Operand) {g : Nat} {s : Value} {ys : List Value} (hgd : o.guard = none) (ho : o.op = .call { callee := .builtin .append, args := #[x, y], argTypes := #[t, t] }) (hv : a.eval x = .slice (some ⟨g, 0, none⟩) 0 0) (hy : a.eval y = s)
    (h : w.ownsRow g e 1 (.slice (some ⟨g, 0, none⟩) 0 0) 0 []) (hs : Sl w s ys) (h1 : ∀ u ∈ ys, u.oneCell' = true) (hb : ys.length * bytes ≤ 140737488355328)
    (k : ∀ v' w', Ext w w' → w'.ownsRow g e 1 v' ys.length ys → wpList P ops Q rest (a.put o.dst v') w') : wpList P ops Q (o :: rest) a w := by
  refine wpList_plain hgd fun K hK => ?_
  obtain ⟨v', w', hr, h2, h3⟩ := run_appE E o.type h hs h1 hb
  unfold Oper.wp execOp
  simp only [ho, resolve, invoke, builtin, Sem.run_bind, Sem.run_pure, Result.andThen_ok, List.map_toArray, List.map_cons, List.map_nil, hv, hy, hr]
  exact hK _ _ (k v' w' h2 h3)
end
end Go.Proofs.Ytgbhbifdfcfamaa
