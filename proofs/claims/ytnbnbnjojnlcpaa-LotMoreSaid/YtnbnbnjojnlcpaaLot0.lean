/- The contracts of package lot: Check, Wins, Winners, Slots. Condition: but for Check, draws that can be. -/
import Derived.Test.YtnbnbnjojnlcpaaLotN
import Derived.Test.YtnbnbnjojnlcpaaCont
import Derived.Test.YtnbnbnjojnlcpaaFE
namespace Go.Proofs.Ytnbnbnjojnlcpaa
open Go.RowKit

/-- A variable of one cell. -/
theorem w_alloc1 {P : Program} {ops : Array Oper} {rest : List Oper} {o : Oper} {a : Act} {Q : Exit → Act → World → Prop} {w : World} {t : TypeId} {z : Value} (hi : (P.info? t).map (fun i => (i.zero, i.size)) = some (some z, 1)) (hz : z.cells = #[z]) (hgd : o.guard = none) (ho : o.op = .alloc t)
    (k : ∀ g w', w.heap.size ≤ g → Ext w w' → Fs w' g [z] → wpList P ops Q rest (a.put o.dst (.pointer (some ⟨g, 0, none⟩))) w') : wpList P ops Q (o :: rest) a w := by
  cases hq : P.info? t with
  | none => rw [hq] at hi; cases hi
  | some i0 =>
    rw [hq] at hi
    simp only [Option.map_some, Option.some.injEq, Prod.mk.injEq] at hi
    refine wpList_plain hgd fun K hK => ?_
    have hk := hK _ _ (k _ _ (Nat.le_refl _) ((Ext.refl w).alloc (.cells #[z] t)) (by simpa using Fs.alloc w #[z] t))
    unfold Oper.wp execOp
    simp [ho, Instr.alloc, newVar, newRow, zeroValue, typeInfo, hq, hi.1, hz]
    exact hk
/-- 1 << n -/
theorem runs_shl1 {P : Program} {o : Oper} {ρ : Operand → Value} {w : World} {k : Nat} {t t' : TypeId} (x : Operand) (ho : o.op = .binOp .shl t (.const (.int .i64 1)) x t') (hc : ρ (.const (.int .i64 1)) = .int .i64 1) (hx : ρ x = .int .i64 k) (hk : k < 7) : Runs P o ρ w (.int .i64 ((2 ^ k : Nat) : Int)) := by
  have hw : IntKind.i64.wrap (1 * 2 ^ k) = ((2 ^ k : Nat) : Int) := by
    have h : ∀ k : Fin 7, IntKind.i64.wrap (1 * 2 ^ k.val) = ((2 ^ k.val : Nat) : Int) := by decide +kernel
    exact h ⟨k, hk⟩
  unfold Runs execOp
  simp only [ho, hc, hx]
  simp [go_sem]
  simpa using hw
theorem runs_bits {P : Program} {o : Oper} {ρ : Operand → Value} {w : World} {t t' : TypeId} {op : BinOp} {m n : Int} (x y : Operand) (hop : op = .and ∨ op = .or) (ho : o.op = .binOp op t x y t') (hx : ρ x = .int .i64 m) (hy : ρ y = .int .i64 n) : Runs P o ρ w (.int .i64 (bits op .i64 m n)) := by
  unfold Runs execOp
  rcases hop with rfl | rfl <;> simp [ho, hx, hy, go_sem]
theorem runs_ne0 {P : Program} {o : Oper} {ρ : Operand → Value} {w : World} {t t' : TypeId} {m : Int} (x : Operand) (ho : o.op = .binOp .neq t x (.const (.int .i64 0)) t') (hx : ρ x = .int .i64 m) (hc : ρ (.const (.int .i64 0)) = .int .i64 0) : Runs P o ρ w (.bool (m != 0)) := by
  unfold Runs execOp
  simp [ho, hx, hc, go_sem]

/-! ### Check -/
set_option maxRecDepth 100000 in
set_option maxHeartbeats 1600000 in
theorem over_any {w : World} {g : Nat} {d : Int} (hlo : -9223372036854775808 ≤ d) (hhi : d ≤ 9223372036854775807) (f0 : Fs w g [.int .i64 127]) :
    Calls Try.prog 21 #[.int .i64 d, .pointer (some ⟨g, 0, none⟩)] w fun e w' => e = .returned (.bool (!decide (0 ≤ d ∧ d ≤ 127))) ∧ Ext w w' := by
  refine calls_keep ?_
  have hq : (bits .andNot .i64 d 127 != 0) = !decide (0 ≤ d ∧ d ≤ 127) := by
    by_cases h : 0 ≤ d ∧ d ≤ 127
    · rw [andNot_yes h.1 h.2, decide_eq_true h]; rfl
    · rw [decide_eq_false h, bne_iff_ne.2 fun e => h (andNot_no hlo hhi e)]; rfl
  obtain ⟨q, hq1⟩ : ∃ q, (!decide (0 ≤ d ∧ d ≤ 127)) = q := ⟨_, rfl⟩
  rw [hq1] at hq ⊢
  clear hq1
  go_enter Try.func21, Try.ntmps21
  go_wp2_with ((first
    | ((with_reducible refine at_load ?_); refine w_fload _ rfl rfl rfl f0 rfl (agg_of (by kernel_rfl)) ?_)
    | fail) <;> (try simp only [Act.put, List.setIfInBounds_toArray, List.set_cons_zero, List.set_cons_succ]))
  go_ret
  exact Keep.intro ⟨rfl, Ext.refl _⟩

/-- The first one that can't be. -/
def FirstN (q : Int → Bool) (l : List Int) (r : Int) : Prop := decide (0 ≤ r) = l.any q
set_option maxRecDepth 100000 in
set_option maxHeartbeats 3200000 in
theorem IndexFunc_over {w : World} {v : Value} {l : List Int} {g : Nat} (h0 : Ints w v l) (hI : I64s l) (f00 : Fs w g [.int .i64 127]) :
    Calls Try.prog 23 #[v, .func (.func 21) #[] #[.pointer (some ⟨g, 0, none⟩)]] w fun e w' => ∃ r : Int, e = .returned (.int .i64 r) ∧ decide (0 ≤ r) = (!decide (∀ x ∈ l, 0 ≤ x ∧ x ≤ 127)) ∧ Ext w w' := by
  refine calls_keep ?_
  have hmax : l.length ≤ 9223372036854775807 := by have := h0.len_le; unfold maxLen at this; omega
  replace h0 := hide_ h0
  have f0 := hide_ f00
  have hI' := hide_ hI
  clear f00 hI
  go_enter Try.func23, Try.ntmps23
  go_wp2_with ((first
    | ((with_reducible refine at_bi ?_); (try refine w_yes _ _ _ rfl rfl rfl ?_); refine i_len _ rfl rfl (v := v) rfl h0.out ?_)
    | fail) <;> (try simp only [Act.put, List.setIfInBounds_toArray, List.set_cons_zero, List.set_cons_succ]))
  go_loopw [8] (fun i wr => ∃ k : Nat, i = .int .i64 k ∧ k ≤ l.length ∧ Hid (∀ y ∈ l.take k, 0 ≤ y ∧ y ≤ 127) ∧ Ext w wr) (fun i _ => l.length - (RowKit.intOf i).toNat)
  case atStart => exact ⟨0, rfl, Nat.zero_le _, hide_ (by simp), Ext.refl _⟩
  case round =>
    obtain ⟨k, rfl, hk, hnt, hX⟩ := hrel
    by_cases hge : l.length ≤ k
    · obtain rfl : k = l.length := by omega
      have t2 : decide (l.length < l.length) = false := by simp
      rw [List.take_length] at hnt
      clear hge
      go_wp2
      go_ret
      exact Keep.intro ⟨-1, rfl, by rw [decide_eq_true hnt.out]; rfl, hX⟩
    have hlt : k < l.length := by omega
    have t2 : decide (k < l.length) = true := by simpa using hlt
    obtain ⟨x, hx0⟩ : ∃ x, l[k] = x := ⟨_, rfl⟩
    have hx := hide_ hx0
    have hxI := hide_ (hI'.out x (by rw [← hx0]; exact List.getElem_mem hlt))
    have e0 : l.take (k + 1) = l.take k ++ [x] := by rw [List.take_add_one, List.getElem?_eq_getElem hlt, hx0]; rfl
    have hlt' := hide_ hlt
    have hkb : k < 9223372036854775807 := by omega
    by_cases hc : 0 ≤ x ∧ x ≤ 127
    · have hnt2 := hide_ (show ∀ y ∈ l.take (k + 1), 0 ≤ y ∧ y ≤ 127 from by
        rw [e0]
        intro y hy
        rcases List.mem_append.1 hy with hy | hy
        · exact hnt.out y hy
        · simp only [List.mem_singleton] at hy; subst hy; exact hc)
      have hq := hide_ (show (!decide (0 ≤ x ∧ x ≤ 127)) = false from by rw [decide_eq_true hc]; rfl)
      clear hge hx0 e0 hnt hc
      go_wp2_with ((first
        | (go_at_call 21; refine (over_any (g := g) hxI.out.1 hxI.out.2 (f0.out.ext hX)).mono ?_; rintro e w4 ⟨rfl, hx⟩; rw [hq.out]; replace hX := hX.trans hx; clear hx)
        | ((with_reducible refine at_idx ?_); refine i_idx _ _ k rfl rfl rfl (h0.out.ext hX) rfl hlt'.out ?_; intro ad had; rw [hx.out] at had)
        | fail) <;> (try simp only [Act.put, List.setIfInBounds_toArray, List.set_cons_zero, List.set_cons_succ]))
      go_roundw
      case rel => exact ⟨k + 1, by go_num, hlt'.out, hnt2, hX⟩
      case measure => have := hlt'.out; simp [RowKit.intOf]; omega
    · have hin := hide_ (show ¬ ∀ y ∈ l, 0 ≤ y ∧ y ≤ 127 from fun h => hc (h x (by rw [← hx0]; exact List.getElem_mem hlt)))
      have hq := hide_ (show (!decide (0 ≤ x ∧ x ≤ 127)) = true from by rw [decide_eq_false hc]; rfl)
      clear hge hx0 e0 hnt hc
      go_wp2_with ((first
        | (go_at_call 21; refine (over_any (g := g) hxI.out.1 hxI.out.2 (f0.out.ext hX)).mono ?_; rintro e w4 ⟨rfl, hx⟩; rw [hq.out]; replace hX := hX.trans hx; clear hx)
        | ((with_reducible refine at_idx ?_); refine i_idx _ _ k rfl rfl rfl (h0.out.ext hX) rfl hlt'.out ?_; intro ad had; rw [hx.out] at had)
        | fail) <;> (try simp only [Act.put, List.setIfInBounds_toArray, List.set_cons_zero, List.set_cons_succ]))
      go_ret
      exact Keep.intro ⟨(k : Nat), rfl, by rw [decide_eq_false hin.out]; simp, hX⟩
set_option maxRecDepth 100000 in
set_option maxHeartbeats 1600000 in
theorem ContainsFunc_over {w : World} {v : Value} {l : List Int} {g : Nat} (h0 : Ints w v l) (hI : I64s l) (f00 : Fs w g [.int .i64 127]) :
    Calls Try.prog 20 #[v, .func (.func 21) #[] #[.pointer (some ⟨g, 0, none⟩)]] w fun e w' => e = .returned (.bool (!decide (∀ x ∈ l, 0 ≤ x ∧ x ≤ 127))) ∧ Ext w w' := by
  refine calls_keep ?_
  replace h0 := hide_ h0
  have f0 := hide_ f00
  have hI' := hide_ hI
  have hX := Ext.refl w
  obtain ⟨q, hq⟩ : ∃ q, (!decide (∀ x ∈ l, 0 ≤ x ∧ x ≤ 127)) = q := ⟨_, rfl⟩
  have hq' := hide_ hq
  rw [hq]
  clear hq f00 hI
  go_enter Try.func20, Try.ntmps20
  go_wp2_with (first
    | (go_at_call 23; refine (IndexFunc_over (g := g) (h0.out.ext hX) hI'.out (f0.out.ext hX)).mono ?_; rintro e w4 ⟨r, rfl, hr, hx⟩; rw [hq'.out] at hr; replace hX := hX.trans hx; clear hx)
    | fail)
  go_ret
  exact Keep.intro ⟨rfl, hX⟩
set_option maxRecDepth 100000 in
set_option maxHeartbeats 1600000 in
theorem Check_any {w : World} {v : Value} {l : List Int} (h0 : Ints w v l) (hI : I64s l) :
    Calls Try.prog 9 #[v] w fun e w' => e = .returned (.int .i64 (lchk l)) ∧ Ext w w' := by
  refine calls_keep ?_
  replace h0 := hide_ h0
  replace hI := hide_ hI
  by_cases h1 : 200 < l.length
  · have t1 : decide ((200 : Int) < (l.length : Int)) = true := by simp; omega
    have hc := hide_ (show lchk l = 101 from if_neg fun e => by have := e.1; omega)
    clear h1
    go_enter Try.func9, Try.ntmps9
    go_wp2_with ((first
      | ((with_reducible refine at_bi ?_); (try refine w_yes _ _ _ rfl rfl rfl ?_); refine i_len _ rfl rfl (v := v) rfl h0.out ?_)
      | fail) <;> (try simp only [Act.put, List.setIfInBounds_toArray, List.set_cons_zero, List.set_cons_succ]))
    go_ret
    exact Keep.intro ⟨by rw [hc.out]; rfl, Ext.refl _⟩
  have t1 : decide ((200 : Int) < (l.length : Int)) = false := by simp; omega
  by_cases h2 : ∀ x ∈ l, 0 ≤ x ∧ x ≤ 127
  · have hc := hide_ (show lchk l = 0 from if_pos ⟨by omega, h2⟩)
    have hq := hide_ (show (!decide (∀ x ∈ l, 0 ≤ x ∧ x ≤ 127)) = false from by rw [decide_eq_true h2]; rfl)
    clear h1 h2
    go_enter Try.func9, Try.ntmps9
    go_wp2_with ((first
      | (go_at_call 20; refine (ContainsFunc_over (g := g1) (h0.out.ext hX) hI.out f1).mono ?_; rintro e w4 ⟨rfl, hx⟩; rw [hq.out]; replace hX := hX.trans hx; clear hx)
      | ((with_reducible refine at_bi ?_); (try refine w_yes _ _ _ rfl rfl rfl ?_); refine i_len _ rfl rfl (v := v) rfl h0.out ?_)
      | ((with_reducible refine at_alloc ?_); refine w_alloc1 (z := .int .i64 0) (by kernel_rfl) rfl rfl rfl ?_; intro g1 w1 hg1 hX f1)
      | ((with_reducible refine at_store ?_); refine w_fstore _ _ (u := .int .i64 127) rfl rfl rfl rfl rfl f1 (by simp) rfl rfl (by kernel_rfl) ?_; intro w2 hm f2; replace hX := hm.after hX (fun i hi => by rw [hi]; exact hg1); replace f1 : Fs w2 g1 [.int .i64 127] := f2; clear hm f2)
      | fail) <;> (try simp only [Act.put, List.setIfInBounds_toArray, List.set_cons_zero, List.set_cons_succ]))
    go_ret
    exact Keep.intro ⟨by rw [hc.out]; rfl, hX⟩
  · have hc := hide_ (show lchk l = 101 from if_neg fun e => h2 e.2)
    have hq := hide_ (show (!decide (∀ x ∈ l, 0 ≤ x ∧ x ≤ 127)) = true from by rw [decide_eq_false h2]; rfl)
    clear h1 h2
    go_enter Try.func9, Try.ntmps9
    go_wp2_with ((first
      | (go_at_call 20; refine (ContainsFunc_over (g := g1) (h0.out.ext hX) hI.out f1).mono ?_; rintro e w4 ⟨rfl, hx⟩; rw [hq.out]; replace hX := hX.trans hx; clear hx)
      | ((with_reducible refine at_bi ?_); (try refine w_yes _ _ _ rfl rfl rfl ?_); refine i_len _ rfl rfl (v := v) rfl h0.out ?_)
      | ((with_reducible refine at_alloc ?_); refine w_alloc1 (z := .int .i64 0) (by kernel_rfl) rfl rfl rfl ?_; intro g1 w1 hg1 hX f1)
      | ((with_reducible refine at_store ?_); refine w_fstore _ _ (u := .int .i64 127) rfl rfl rfl rfl rfl f1 (by simp) rfl rfl (by kernel_rfl) ?_; intro w2 hm f2; replace hX := hm.after hX (fun i hi => by rw [hi]; exact hg1); replace f1 : Fs w2 g1 [.int .i64 127] := f2; clear hm f2)
      | fail) <;> (try simp only [Act.put, List.setIfInBounds_toArray, List.set_cons_zero, List.set_cons_succ]))
    go_ret
    exact Keep.intro ⟨by rw [hc.out]; rfl, hX⟩
end Go.Proofs.Ytnbnbnjojnlcpaa
