/- The document's ledger: each number where it comes first; how many decisions are known; what is final; what is available. -/
import Derived.Test.YtdoeoncmhaihbaaLgB
import Derived.Test.YtdoeoncmhaihbaaChR
import Derived.Test.YtdoeoncmhaihbaaRegG
namespace Go.Proofs.Ytdoeoncmhaihbaa
set_option maxRecDepth 100000
open Go.RowKit

def Sp.oi (lo : Nat) (l : List Int) : Sp := .any (fun v w => OwnI lo w v l) fun _ _ _ h he => h.ext he
def Sp.li1 (lo : Nat) (l : List Int) : Sp := .any (fun v w => ∃ u, Sl w v [u] ∧ OwnI lo w u l) fun _ _ _ ⟨u, h1, h2⟩ he => ⟨u, h1.ext he, h2.ext he⟩
def Sp.li2 (lo : Nat) (l m : List Int) : Sp := .any (fun v w => ∃ u u2, Sl w v [u, u2] ∧ OwnI lo w u l ∧ OwnI lo w u2 m) fun _ _ _ ⟨u, u2, h1, h2, h3⟩ he => ⟨u, u2, h1.ext he, h2.ext he, h3.ext he⟩
theorem retO {f : FuncId} {args : Array Value} {w : World} {lo : Nat} {l : List Int} (hlo : lo ≤ w.heap.size) (h : Calls Try.prog f args w fun e w' => ∃ v', e = .returned v' ∧ OwnI w.heap.size w' v' l ∧ Ext w w') : Calls Try.prog f args w fun e w' => ∃ v', e = .returned v' ∧ Ext w w' ∧ Sp.p (Sp.oi lo l) v' w' := by
  refine h.mono ?_
  rintro e w' ⟨v', rfl, ho, hx⟩
  exact ⟨_, rfl, hx, ho.mono hlo⟩
theorem recs_li2 {lo : Nat} {w : World} {v : Value} {l m : List Int} (h : ∃ u u2, Sl w v [u, u2] ∧ OwnI lo w u l ∧ OwnI lo w u2 m) (hl : I64s l) (hm : I64s m) : Recs 1 IntR w v [l, m] := by
  obtain ⟨u, u2, h1, h2, h3⟩ := h
  exact recs_two2 h1 h2.ints hl h3.ints hm
section
variable {ops : Array Oper} {a : Act} {w : World} {r : List Sp} {o : Oper} {reads : List (Tmp × Option Nat)} {lo : Nat} {l m : List Int}
theorem op_li1 (t : Nat) (hgd : o.guard = none) (ho : o.op = .buildSlice 29 1 #[(0, .tmp t)]) (h : ∀ (σ : Act) (w' : World), Ext w w' → Given a r σ w' reads → OwnI lo w' (σ.tmps.getD t undef) l) : opOk Try.prog ops a w r o reads (Sp.li1 lo l) := by
  intro σ w' hx hg
  rw [if_pos (wanted_none hgd _)]
  have hu := h σ w' hx hg
  have hr := run_buildSlice (P := Try.prog) Try.elLL [σ.tmps.getD t undef] (#[((0 : Nat), Operand.tmp t)].map fun x => (x.1, σ.eval x.2)) (by simp [Act.eval]) (one1 (oneCell_cells (Sl.one' hu.ints))) 1 rfl (by omega) w'
  unfold Oper.wp execOp
  simp only [ho]
  rw [show (Instr.buildSlice 29 1 (#[((0 : Nat), Operand.tmp t)].map fun (i, x) => (i, σ.eval x))) = Instr.buildSlice 29 1 (#[((0 : Nat), Operand.tmp t)].map fun x => (x.1, σ.eval x.2)) from rfl]
  simp only [Sem.run_bind, hr, Result.andThen_ok]
  exact ⟨_, rfl, (Ext.refl _).alloc _, _, Sl.of_own (own_new (w := w') (e := 25) [σ.tmps.getD t undef] (by simp)), hu.ext ((Ext.refl _).alloc _)⟩
theorem op_li2 (t t' : Nat) (hgd : o.guard = none) (ho : o.op = .buildSlice 29 2 #[(0, .tmp t), (1, .tmp t')]) (h : ∀ (σ : Act) (w' : World), Ext w w' → Given a r σ w' reads → OwnI lo w' (σ.tmps.getD t undef) l) (h2 : ∀ (σ : Act) (w' : World), Ext w w' → Given a r σ w' reads → OwnI lo w' (σ.tmps.getD t' undef) m) : opOk Try.prog ops a w r o reads (Sp.li2 lo l m) := by
  intro σ w' hx hg
  rw [if_pos (wanted_none hgd _)]
  have hu := h σ w' hx hg
  have hu2 := h2 σ w' hx hg
  have hr := run_buildSlice (P := Try.prog) Try.elLL [σ.tmps.getD t undef, σ.tmps.getD t' undef] (#[((0 : Nat), Operand.tmp t), (1, Operand.tmp t')].map fun x => (x.1, σ.eval x.2)) (by simp [Act.eval]) (one2 (oneCell_cells (Sl.one' hu.ints)) (oneCell_cells (Sl.one' hu2.ints))) 2 rfl (by omega) w'
  unfold Oper.wp execOp
  simp only [ho]
  rw [show (Instr.buildSlice 29 2 (#[((0 : Nat), Operand.tmp t), (1, Operand.tmp t')].map fun (i, x) => (i, σ.eval x))) = Instr.buildSlice 29 2 (#[((0 : Nat), Operand.tmp t), (1, Operand.tmp t')].map fun x => (x.1, σ.eval x.2)) from rfl]
  simp only [Sem.run_bind, hr, Result.andThen_ok]
  exact ⟨_, rfl, (Ext.refl _).alloc _, _, _, Sl.of_own (own_new (w := w') (e := 25) [σ.tmps.getD t undef, σ.tmps.getD t' undef] (by simp)), hu.ext ((Ext.refl _).alloc _), hu2.ext ((Ext.refl _).alloc _)⟩
end

set_option maxRecDepth 100000 in
set_option maxHeartbeats 3200000 in
theorem refLClean_any {w : World} {v : Value} {ls : List (List Int)} (h0 : Recs 1 IntR w v ls) (hb0 : ls.flatten.length ≤ 600000) :
    Calls Try.prog 16 #[v] w fun e w' => ∃ v', e = .returned v' ∧ OwnI w.heap.size w' v' (cl ls.flatten) ∧ Ext w w' := by
  refine calls_keep ?_
  have h := hide_ h0
  have hX := Ext.refl w
  have hb := hide_ hb0
  have hmax := h0.len_le
  unfold maxLen at hmax
  clear h0 hb0
  go_enter Try.func16, Try.ntmps16
  go_wp2_with ((first
    | ((with_reducible refine at_lit ?_); refine w_new Try.elI (i64s []) rfl rfl rfl (i64s_cells _) rfl (by omega) ?_; intro v11 w3 hx o11; have hC : OwnI w.heap.size w3 v11 [] := o11; replace hX := hX.trans hx; clear hx o11)
    | ((with_reducible refine at_bi ?_); refine w_rlen Try.elLS _ rfl rfl rfl (h.out.ext IntR.stays hX) ?_)
    | fail) <;> (try simp only [Act.put, List.setIfInBounds_toArray, List.set_cons_zero, List.set_cons_succ]))
  go_loopw [3, 14] (fun u3 i wr => ∃ k : Nat, i = .int .i64 k ∧ k ≤ ls.length ∧ OwnI w.heap.size wr u3 (cl (ls.take k).flatten) ∧ Ext w wr) (fun _ i _ => ls.length - (RowKit.intOf i).toNat)
  case atStart => exact ⟨0, rfl, Nat.zero_le _, hC, hX⟩
  case round =>
    clear hX hC
    obtain ⟨k, rfl, hk, hC, hX⟩ := hrel
    by_cases hge : ls.length ≤ k
    · obtain rfl : k = ls.length := by omega
      have t2 : decide (ls.length < ls.length) = false := by simp
      rw [List.take_length] at hC
      clear hge
      go_wp2
      go_ret
      exact Keep.intro ⟨_, rfl, hC, hX⟩
    have hlt : k < ls.length := by omega
    have t2 : decide (k < ls.length) = true := by simpa using hlt
    obtain ⟨l, hd0⟩ : ∃ l, ls[k]? = some l := ⟨_, List.getElem?_eq_getElem hlt⟩
    have hd := hide_ hd0
    obtain ⟨A, hA0⟩ : ∃ A, cl (ls.take k).flatten = A := ⟨_, rfl⟩
    have hstep := hide_ (show cl (ls.take (k + 1)).flatten = clF A l from by rw [List.take_add_one, hd0, ← hA0]; simp [cl_app])
    have hAl := hide_ (show A.length + l.length ≤ 600000 from by
      have h1 := cl_len (ls.take k).flatten
      have h2 : ls.flatten = (ls.take k).flatten ++ (l ++ (ls.drop (k + 1)).flatten) := by
        conv => lhs; rw [← List.take_append_drop k ls, List.drop_eq_getElem_cons hlt]
        have e : ls[k] = l := (List.getElem?_eq_some_iff.1 hd0).2
        rw [e]; simp
      have h3 := hb.out
      rw [h2, List.length_append, List.length_append] at h3
      rw [hA0] at h1
      omega)
    rw [hA0] at hC
    have hlt' := hide_ hlt
    have hkb : k < 9223372036854775807 := by omega
    clear hge hd0 hA0
    go_wp2_with ((first
      | (refine w_lsidx _ _ k rfl rfl rfl rfl h.out hX hd.out ?_; intro pa ul hrow hul0; replace hrow := hide_ hrow; have hul := hide_ hul0; clear hul0)
      | ((with_reducible refine at_load ?_); refine w_cload _ rfl rfl rfl hrow.out (fun w => by kernel_rfl) ?_; clear hrow)
      | ((with_reducible refine at_bi ?_); refine i_len _ rfl rfl rfl (hul.out.ext hX) ?_)
      | fail) <;> (try simp only [Act.put, List.setIfInBounds_toArray, List.set_cons_zero, List.set_cons_succ]))
    go_loopw [3, 20] (fun u3 i wx => ∃ j : Nat, i = .int .i64 j ∧ j ≤ l.length ∧ OwnI w.heap.size wx u3 (clF A (l.take j)) ∧ Ext w wx) (fun _ i _ => l.length - (RowKit.intOf i).toNat)
    case atStart => exact ⟨0, rfl, Nat.zero_le _, hC, hX⟩
    case round =>
      clear hX hC
      obtain ⟨j, rfl, hj, hC, hX⟩ := hrel
      by_cases hge : l.length ≤ j
      · obtain rfl : j = l.length := by omega
        have t3 : decide (l.length < l.length) = false := by simp
        rw [List.take_length] at hC
        clear hge
        go_wp2
        go_roundw
        case rel => exact ⟨k + 1, by go_num, hlt'.out, by rw [hstep.out]; exact hC, hX⟩
        case measure => have := hlt'.out; simp [RowKit.intOf]; omega
      have hjl : j < l.length := by omega
      have t3 : decide (j < l.length) = true := by simpa using hjl
      obtain ⟨x, hx0⟩ : ∃ x, l[j] = x := ⟨_, rfl⟩
      have hjl' := hide_ hjl
      have hxx := hide_ (show l[j]'(hjl'.out) = x from hx0)
      have e0 : l.take (j + 1) = l.take j ++ [x] := by rw [List.take_add_one, List.getElem?_eq_getElem hjl, hx0]; rfl
      obtain ⟨B, hB0⟩ : ∃ B, clF A (l.take j) = B := ⟨_, rfl⟩
      have hst0 := hide_ (show clF A (l.take (j + 1)) = if x ∈ B then B else B ++ [x] from by rw [e0, clF_snoc, hB0])
      have hBl := hide_ (show B.length ≤ 600000 from by
        have h1 := clF_len (l.take j) A
        have h2 := hAl.out
        rw [hB0, List.length_take] at h1
        omega)
      rw [hB0] at hC
      have hjb : j < 9223372036854775807 := by have := hAl.out; omega
      have hB8 := hide_ (show (B.length + [x].length) * 8 ≤ 140737488355328 from by have := hBl.out; simp; omega)
      clear hge hlt hjl hx0 e0 hB0
      obtain ⟨vB, hvB⟩ : ∃ va, va = u3 := ⟨_, rfl⟩
      rw [← hvB] at hC
      subst hvB
      go_wp2_with ((first
        | ((with_reducible refine at_idx ?_); refine i_idx _ _ j rfl rfl rfl (hul.out.ext hX) rfl hjl'.out ?_; intro ad had; rw [hxx.out] at had)
        | ((with_reducible refine at_bi ?_); refine i_len _ rfl rfl rfl hC.ints ?_)
        | fail) <;> (try simp only [Act.put, List.setIfInBounds_toArray, List.set_cons_zero, List.set_cons_succ]))
      go_loopw [8, 26] (fun u8 i wy => ∃ m : Nat, i = .int .i64 m ∧ m ≤ B.length ∧ u8 = .bool (decide (x ∈ B.take m)) ∧ OwnI w.heap.size wy vB B ∧ Ext w wy) (fun _ i _ => B.length - (RowKit.intOf i).toNat)
      case atStart => exact ⟨0, rfl, Nat.zero_le _, by simp, hC, hX⟩
      case round =>
        clear hC hX
        obtain ⟨m, rfl, hm, rfl, hC, hX⟩ := hrel
        by_cases hge : B.length ≤ m
        · obtain rfl : m = B.length := by omega
          have t4 : decide (B.length < B.length) = false := by simp
          rw [List.take_length]
          by_cases hin : x ∈ B
          · have tin := decide_eq_true hin
            have hst := hide_ (hst0.out.trans (if_pos hin))
            rw [tin]
            clear hge hin tin
            go_wp2
            go_roundw
            case rel => exact ⟨j + 1, by go_num, hjl'.out, by rw [hst.out]; exact hC, hX⟩
            case measure => have := hjl'.out; simp [RowKit.intOf]; omega
          · have tin := decide_eq_false hin
            have hst := hide_ (hst0.out.trans (if_neg hin))
            rw [tin]
            clear hge hin tin
            go_wp2_with ((first
              | ((with_reducible refine at_lit ?_); refine w_new Try.elI (i64s [x]) rfl rfl rfl (i64s_cells _) rfl (by omega) ?_; intro v3 w6 hx3 o3; replace o3 : OwnI _ w6 v3 [x] := o3; replace o3 := o3.ints; replace hC := hC.ext hx3; replace hX := hX.trans hx3; clear hx3)
              | ((with_reducible refine at_bi ?_); refine appi _ _ rfl rfl rfl rfl hC o3 hB8.out hX.size ?_; intro v9 w9 o9 hb9 hg9 hg9'; replace hX := hX.trans' hb9; clear hC o3 hb9 hg9 hg9')
              | fail) <;> (try simp only [Act.put, List.setIfInBounds_toArray, List.set_cons_zero, List.set_cons_succ]))
            go_roundw
            case rel => exact ⟨j + 1, by go_num, hjl'.out, by rw [hst.out]; exact o9, hX⟩
            case measure => have := hjl'.out; simp [RowKit.intOf]; omega
        have hml : m < B.length := by omega
        have t4 : decide (m < B.length) = true := by simpa using hml
        obtain ⟨y, hy0⟩ : ∃ y, B[m] = y := ⟨_, rfl⟩
        have hml' := hide_ hml
        have hyy := hide_ (show B[m]'(hml'.out) = y from hy0)
        have e1 : B.take (m + 1) = B.take m ++ [y] := by rw [List.take_add_one, List.getElem?_eq_getElem hml, hy0]; rfl
        have hmb : m < 9223372036854775807 := by have := hBl.out; omega
        by_cases hin : x ∈ B.take m
        · have tin := decide_eq_true hin
          have hn := hide_ (show decide (x ∈ B.take (m + 1)) = true from decide_eq_true (by rw [e1]; exact List.mem_append_left _ hin))
          rw [tin]
          clear hge hml hy0 e1 hin tin
          go_wp2_with ((first
            | go_big_skip
            | ((with_reducible refine at_idx ?_); refine i_idx _ _ m rfl rfl rfl hC.ints rfl hml'.out ?_; intro ad had; rw [hyy.out] at had)
            | fail) <;> (try simp only [Act.put, List.setIfInBounds_toArray, List.set_cons_zero, List.set_cons_succ]))
          go_roundw
          case rel => exact ⟨m + 1, by go_num, hml'.out, by rw [hn.out], hC, hX⟩
          case measure => have := hml'.out; simp [RowKit.intOf]; omega
        have tin := decide_eq_false hin
        have hn := hide_ (show decide (x ∈ B.take (m + 1)) = (x == y) from by
          rw [e1, Bool.eq_iff_iff, decide_eq_true_iff, beq_iff_eq, List.mem_append, List.mem_singleton]
          exact ⟨fun h => h.resolve_left hin, .inr⟩)
        rw [tin]
        clear hge hml hy0 e1 hin tin
        go_wp2_with ((first
          | go_big_skip
          | ((with_reducible refine at_idx ?_); refine i_idx _ _ m rfl rfl rfl hC.ints rfl hml'.out ?_; intro ad had; rw [hyy.out] at had)
          | fail) <;> (try simp only [Act.put, List.setIfInBounds_toArray, List.set_cons_zero, List.set_cons_succ]))
        go_roundw
        case rel => exact ⟨m + 1, by go_num, hml'.out, by rw [hn.out], hC, hX⟩
        case measure => have := hml'.out; simp [RowKit.intOf]; omega

def CellR (_ : World) (row : List Value) (u : Value) : Prop := row = [u]
theorem CellR.stays : Stays CellR := fun _ _ _ _ h _ => h
theorem recs_cells {w : World} {v : Value} {us : List Value} (h : Sl w v us) : Recs 1 CellR w v us := by
  obtain ⟨A, c, rfl, h1, h2, h3⟩ := h
  refine ⟨us.map fun u => [u], ⟨A, c, by rw [List.length_map], by rw [List.length_map]; exact h1, h2, fun k row hk => ?_⟩, by rw [List.length_map], fun k row l hk hd => ?_⟩
  · rw [List.getElem?_map] at hk
    cases hq : us[k]? with
    | none => rw [hq] at hk; cases hk
    | some u =>
      rw [hq] at hk
      have e : [u] = row := by simpa using hk
      subst e
      obtain ⟨ad, e, hc⟩ := h3 k u hq
      refine ⟨rfl, ad, e, fun j x hj => ?_⟩
      match j with
      | 0 =>
        have e2 : u = x := by simpa using hj
        subst e2
        rw [Addr.add_zero', Nat.mul_one]; exact hc
      | j + 1 => simp at hj
  · rw [List.getElem?_map, hd] at hk
    have e : [l] = row := by simpa using hk
    exact e.symm
theorem Try.elIS : ElS Try.prog 25 3 1 := ElS.of Try.underlying25 (by kernel_rfl)
/-- What the region that asks for a decision's block tells. -/
def V19 (W : World) (vk vw v : Value) (x : Int) (b : BlkD) (q : Bool) (g2 k : Nat) (i : Nat) (u : Value) : Prop :=
  match i with
  | 0 => u = .pointer (some ⟨g2, 0, none⟩)
  | 1 => u = .agg #[vk, vw]
  | 2 => u = v
  | 3 => u = .int .i64 k
  | 4 => ∃ ad : Addr, u = .pointer (some ad) ∧ RowAt W ad [.int .i64 x]
  | 5 => u = .int .i64 x
  | 6 => ∃ t, u = .tuple #[.agg (bRow b t).toArray, .bool q] ∧ t.oneCell' = true
  | 7 => ∃ t, u = .tuple #[.agg (bRow b t).toArray, .bool q] ∧ t.oneCell' = true
  | 8 => ∃ t, u = .agg (bRow b t).toArray ∧ t.oneCell' = true
  | _ => u = .bool q

set_option maxRecDepth 100000 in
set_option maxHeartbeats 3200000 in
theorem refSettled_any {w : World} {vk vw dv : Value} {deep slot : Int} {K : List BlkD} (hK0 : Recs 5 BlkR w vk K) {v : Value} {xs : List Int} (h1 : Ints w v xs) (hl0 : xs.length ≤ 42) :
    Calls Try.prog 19 #[.agg (cRow vk vw dv deep slot).toArray, v] w fun e w' => e = .returned (.int .i64 (settled K xs : Nat)) ∧ Ext w w' := by
  refine calls_keep ?_
  have hKC := hide_ (recsC hK0)
  have hd := hide_ h1
  have hX := Ext.refl w
  clear h1 hK0
  go_enter Try.func19, Try.ntmps19
  go_wp2_with ((first
    | ((with_reducible refine at_box ?_); refine w_box _ (cRow vk vw dv deep slot) rfl rfl rfl rfl ?_; intro g2 w2 hg2 hx f20; have f2 := hide_ f20; replace hX := hX.trans hx; clear hx f20)
    | fail) <;> (try simp only [Act.put, List.setIfInBounds_toArray, List.set_cons_zero, List.set_cons_succ]))
  have hX0 := hide_ hX
  go_loopw [5] (fun i wr => ∃ k : Nat, i = .int .i64 k ∧ k ≤ xs.length ∧ (∀ y ∈ xs.take k, knw K y = true) ∧ Ext w2 wr) (fun i _ => xs.length - (RowKit.intOf i).toNat)
  case atStart => exact ⟨0, rfl, Nat.zero_le _, (by simp), Ext.refl _⟩
  case round =>
    clear hX
    obtain ⟨k, rfl, hk, hall0, hX⟩ := hrel
    by_cases hge : xs.length ≤ k
    · obtain rfl : k = xs.length := by omega
      have t2 : decide (xs.length < xs.length) = false := by simp
      rw [List.take_length] at hall0
      have hs := hide_ (show settled K xs = xs.length from stl_all hall0)
      clear hge hall0
      go_wp2_with ((first
        | ((with_reducible refine at_bi ?_); refine i_len _ rfl rfl rfl (hd.out.ext (hX0.out.trans hX)) ?_)
        | fail) <;> (try simp only [Act.put, List.setIfInBounds_toArray, List.set_cons_zero, List.set_cons_succ]))
      go_ret
      exact Keep.intro ⟨by rw [hs.out]; rfl, hX0.out.trans hX⟩
    have hlt : k < xs.length := by omega
    have t2 : decide (k < xs.length) = true := by simpa using hlt
    obtain ⟨x, hx0⟩ : ∃ x, xs[k] = x := ⟨_, rfl⟩
    have hlt' := hide_ hlt
    have hxx := hide_ (show xs[k]'(hlt'.out) = x from hx0)
    have hx1 : xs[k]? = some x := by rw [List.getElem?_eq_getElem hlt, hx0]
    have hall1 : knw K x = true → ∀ y ∈ xs.take (k + 1), knw K y = true := fun hkx y hy => by
      rw [List.take_add_one, hx1] at hy
      rcases List.mem_append.1 hy with hy | hy
      · exact hall0 y hy
      · have : y = x := by simpa using hy
        rw [this]; exact hkx
    have hkb : k < 9223372036854775807 := by omega
    obtain ⟨b, hb0⟩ : ∃ b, getOr K x = b := ⟨_, rfl⟩
    obtain ⟨q, hq0⟩ : ∃ q, TrS.has K x = q := ⟨_, rfl⟩
    have hb := hide_ hb0
    have hq := hide_ hq0
    go_wp2_with ((first
      | ((with_reducible refine at_bi ?_); refine i_len _ rfl rfl rfl (hd.out.ext (hX0.out.trans hX)) ?_)
      | fail) <;> (try simp only [Act.put, List.setIfInBounds_toArray, List.set_cons_zero, List.set_cons_succ]))
    refine wp_region_val [0, 1, 2, 3, 4, 5, 6, 7, 8, 9, 10, 12] (fun i => [13, 14, 15, 16, 17, 18, 19, 12, 20, 21, 6, 0, 7].getD i 0) (V19 w vk vw v x b q g2 k) 10 11 [.int .i64 0, .int .i64 0, .int .i64 0, .int .i64 0, .slice none 0 0] (fun _ => True) (by kernel_rfl) (by kernel_rfl) (by kernel_rfl) (by decide) (by decide) (by decide) (by intro i hi; show _ < 35; revert i; decide) (by kernel_rfl) (by decide) (by kernel_rfl) ?_ ?_ ?_ ?_
    · intro i hi ha b1 w' hx hout hdep
      rcases (show i = 0 ∨ i = 1 ∨ i = 2 ∨ i = 3 ∨ i = 4 ∨ i = 5 ∨ i = 6 ∨ i = 7 ∨ i = 8 ∨ i = 9 ∨ i = 12 by simp at hi; omega) with rfl | rfl | rfl | rfl | rfl | rfl | rfl | rfl | rfl | rfl | rfl
      · have e2 : b1.tmps.getD 2 undef = .pointer (some ⟨g2, 0, none⟩) := hout 2 (by decide)
        refine wpOp_of_list rfl ?_
        refine w_fieldN (i := 0) (off := 0) (by kernel_rfl) (.tmp 2) g2 rfl rfl e2 ?_
        exact ⟨_, rfl, rfl, Ext.refl _⟩
      · have e0 : b1.tmps.getD 13 undef = .pointer (some ⟨g2, 0, none⟩) := hdep 0 (by decide) (by decide) (by kernel_rfl)
        refine wpOp_of_list rfl ?_
        refine w_loadN Try.stDocT (.tmp 13) [vk, vw] rfl rfl e0 (f2.out.ext (hX.trans hx)) rfl (tree_at _ _ _ _ _) ?_
        exact ⟨_, rfl, rfl, Ext.refl _⟩
      · have e1 : b1.tmps.getD 1 undef = v := hout 1 (by decide)
        refine wpOp_of_list rfl ?_
        refine w_mvH (.tmp 1) rfl (.inl rfl) e1 ?_
        exact ⟨_, rfl, rfl, Ext.refl _⟩
      · have e5 : b1.tmps.getD 5 undef = .int .i64 (k : Nat) := hout 5 (by decide)
        refine wpOp_of_list rfl ?_
        refine w_mvH (.tmp 5) rfl (.inl rfl) e5 ?_
        exact ⟨_, rfl, rfl, Ext.refl _⟩
      · have e2 : b1.tmps.getD 15 undef = v := hdep 2 (by decide) (by decide) (by kernel_rfl)
        have e3 : b1.tmps.getD 16 undef = .int .i64 (k : Nat) := hdep 3 (by decide) (by decide) (by kernel_rfl)
        refine wpOp_of_list rfl ?_
        refine w_ridx0 Try.elIS (.tmp 15) (.tmp 16) k CellR.stays rfl rfl e2 e3 (recs_cells hd.out) (hX0.out.trans (hX.trans hx)) (by rw [i64s_length]; exact hlt'.out) ?_
        intro ad row hrow _ hr
        have e : row = [.int .i64 x] := hr.trans (by simp [i64s, hxx.out])
        exact ⟨_, rfl, ⟨ad, rfl, e ▸ hrow⟩, Ext.refl _⟩
      · obtain ⟨ad, e4, hc⟩ := hdep 4 (by decide) (by decide) (by kernel_rfl)
        refine wpOp_of_list rfl ?_
        refine w_cload (.tmp 17) rfl rfl e4 (hc.ext (hX0.out.trans (hX.trans hx))) (fun w => by kernel_rfl) ?_
        exact ⟨_, rfl, rfl, Ext.refl _⟩
      · have e1 : b1.tmps.getD 14 undef = .agg #[vk, vw] := hdep 1 (by decide) (by decide) (by kernel_rfl)
        have e5 : b1.tmps.getD 18 undef = .int .i64 x := hdep 5 (by decide) (by decide) (by kernel_rfl)
        refine wpOp_call 34 #[.agg #[vk, vw], .int .i64 x] 19 rfl rfl rfl rfl (fun _ _ => rfl) (by simp only [List.map_toArray, List.map_cons, List.map_nil, Act.eval, e1, e5]) ?_
        refine (refGet_at (vw := vw) (n := x) (hX0.out.trans (hX.trans hx)) (hKC.out.ext BlkC.stays (hX0.out.trans (hX.trans hx)))).mono ?_
        rintro e w'' ⟨t, rfl, r5, hx2⟩
        rw [hb.out, hq.out]
        exact ⟨_, rfl, _, rfl, ⟨t, rfl, r5.one'⟩, hx2⟩
      · obtain ⟨t, e6, ht⟩ := hdep 6 (by decide) (by decide) (by kernel_rfl)
        refine wpOp_of_list rfl ?_
        refine w_mvH (.tmp 19) rfl (.inl rfl) e6 ?_
        exact ⟨_, rfl, ⟨t, rfl, ht⟩, Ext.refl _⟩
      · obtain ⟨t, e7, ht⟩ := hdep 7 (by decide) (by decide) (by kernel_rfl)
        refine wpOp_of_list rfl ?_
        refine wpList_runs rfl (runs_extract rfl e7 rfl) ?_
        exact ⟨_, rfl, ⟨t, rfl, ht⟩, Ext.refl _⟩
      · obtain ⟨t, e7, ht⟩ := hdep 7 (by decide) (by decide) (by kernel_rfl)
        refine wpOp_of_list rfl ?_
        refine wpList_runs rfl (runs_extract rfl e7 rfl) ?_
        exact ⟨_, rfl, rfl, Ext.refl _⟩
      · have e9 : b1.tmps.getD 21 undef = .bool q := hdep 9 (by decide) (by decide) (by kernel_rfl)
        refine wpOp_of_list rfl ?_
        refine w_mvH (.tmp 21) rfl (.inr rfl) e9 ?_
        exact ⟨_, rfl, rfl, Ext.refl _⟩
    · intro b1 w'
      refine wpOp_of_list rfl ?_
      refine w_alloc Try.stBlk rfl rfl ?_
      intro g w2 hg hx f
      exact ⟨g, rfl, hg, hx, f⟩
    · intro b1 w' g hx e6 f hdep
      obtain ⟨t, e8, ht⟩ := hdep 8 (by decide) (by decide) (by kernel_rfl)
      refine wpOp_of_list rfl ?_
      refine w_astore Try.stBlk (.tmp 6) (.tmp 20) (us := bRow b t) rfl rfl rfl e6 e8 f rfl rfl (blk_one (a := b.slot) (b := b.miner) (c := b.var) (d := b.parent) ht) ?_
      intro w9 hm f9
      exact ⟨_, rfl, hm, f9, trivial⟩
    intro w18 xv hx hv _
    have e12 : xv 12 = .bool q := hv 12 (by decide) (by decide)
    simp only [List.foldl_cons, List.foldl_nil, e12]
    generalize xv 0 = x0
    generalize xv 1 = x1
    generalize xv 2 = x2
    generalize xv 3 = x3
    generalize xv 4 = x4
    generalize xv 5 = x5
    generalize xv 6 = x6
    generalize xv 7 = x7
    generalize xv 8 = x8
    generalize xv 9 = x9
    generalize xv 10 = x10
    simp only [List.getD_cons_zero, List.getD_cons_succ, Act.put, List.setIfInBounds_toArray, List.set_cons_zero, List.set_cons_succ]
    clear hv
    replace hX := hX.trans hx
    clear hx
    have hall := hide_ hall0
    by_cases hz : x = 0
    · have tz : (x == 0) = true := by simpa using hz
      have tz' : (x != 0) = false := by simpa using hz
      have hal := hide_ (hall1 (by unfold knw; rw [decide_eq_true hz]; rfl))
      clear hge hlt hx0 hx1 hall1 hall0 hz hb0 hq0
      go_wp2_with ((first
        | go_big_skip
        | ((with_reducible refine at_idx ?_); refine i_idx _ _ k rfl rfl rfl (hd.out.ext (hX0.out.trans hX)) rfl hlt'.out ?_; intro ad had; rw [hxx.out] at had)
        | fail) <;> (try simp only [Act.put, List.setIfInBounds_toArray, List.set_cons_zero, List.set_cons_succ]))
      go_roundw
      case rel => exact ⟨k + 1, by go_num, hlt'.out, hal.out, hX⟩
      case measure => have := hlt'.out; simp [RowKit.intOf]; omega
    have tz : (x == 0) = false := by simpa using hz
    have tz' : (x != 0) = true := by simpa using hz
    cases q
    · have hs := hide_ (show settled K xs = k from stl_at hx1 hall0 (by unfold knw; rw [decide_eq_false hz, hq0]; rfl))
      clear hge hlt hx0 hx1 hall1 hall0 hz hb0 hq0
      go_wp2_with ((first
        | go_big_skip
        | ((with_reducible refine at_idx ?_); refine i_idx _ _ k rfl rfl rfl (hd.out.ext (hX0.out.trans hX)) rfl hlt'.out ?_; intro ad had; rw [hxx.out] at had)
        | fail) <;> (try simp only [Act.put, List.setIfInBounds_toArray, List.set_cons_zero, List.set_cons_succ]))
      go_ret
      exact Keep.intro ⟨by rw [hs.out]; rfl, hX0.out.trans hX⟩
    have hal := hide_ (hall1 (by unfold knw; rw [hq0, Bool.or_true]))
    clear hge hlt hx0 hx1 hall1 hall0 hz hb0 hq0
    go_wp2_with ((first
      | go_big_skip
      | ((with_reducible refine at_idx ?_); refine i_idx _ _ k rfl rfl rfl (hd.out.ext (hX0.out.trans hX)) rfl hlt'.out ?_; intro ad had; rw [hxx.out] at had)
      | fail) <;> (try simp only [Act.put, List.setIfInBounds_toArray, List.set_cons_zero, List.set_cons_succ]))
    go_roundw
    case rel => exact ⟨k + 1, by go_num, hlt'.out, hal.out, hX⟩
    case measure => have := hlt'.out; simp [RowKit.intOf]; omega
end Go.Proofs.Ytdoeoncmhaihbaa
