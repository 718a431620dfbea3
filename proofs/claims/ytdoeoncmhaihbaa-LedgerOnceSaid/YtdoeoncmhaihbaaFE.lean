/- The contracts of the document's own answers: neaptideref01.Num and ReadNum. · Lists of numbers as bytes. · The contracts of wire.Nums and neaptideref01.Nums: numbers as bytes, one behind the other. · The contracts of wire.ReadNums and neaptideref01.ReadNums: so many numbers of any bytes. -/
import Derived.Test.YtdoeoncmhaihbaaFD
import Derived.Test.YtdoeoncmhaihbaaFC
namespace Go.Proofs.Ytdoeoncmhaihbaa
set_option maxRecDepth 100000
open Go.RowKit

set_option maxRecDepth 100000 in
set_option maxHeartbeats 400000 in
theorem refNum_any (x : Nat) (w : World) (hx : W64 x) :
    Calls Try.prog 80 #[.int .u64 x] w fun e w' => ∃ v', e = .returned v' ∧ OwnB w.heap.size w' v' (numL x) ∧ Ext w w' := by
  refine calls_keep ?_
  have hx10 := numL_len10 hx
  have HX := hide_ hx
  clear hx
  go_enter Try.func80, Try.ntmps80
  go_wp2
  go_loopw [0, 3] (fun n v' wr => ∃ (ys : List Nat) (m : Nat), n = .int .u64 m ∧ OwnB w.heap.size wr v' ys ∧ Hid (ys ++ numL m = numL x) ∧ Ext w wr ∧ ys.length ≤ 10 ∧ W64 m)
    (fun n _ _ => (intOf n).toNat)
  case atStart => exact ⟨[], x, rfl, own_empty, rfl, (Ext.refl _).alloc _, by simp, HX.out⟩
  case round =>
    obtain ⟨ys, m, rfl, ho, heq, hbw, hyl, hm64⟩ := hrel
    have hq64 : IntKind.u64.wrap ((m : Int) / 128) = (m : Int) / 128 := by
      have := wrapU64 (m / 128) (by unfold W64 at hm64; omega)
      simpa using this
    have hs := hbw.size
    have hbytes : ys.length + 1 ≤ 140737488355328 := by omega
    by_cases h128 : 128 ≤ m
    · have hz : ((m : Int) / 128 == 0) = false := by rw [beq_eq_false_iff_ne]; omega
      have hw8 : IntKind.u8.wrap ((m : Int) % 128 + 128) = (m : Int) % 128 + 128 := by simp [IntKind.wrap, IntKind.bits, IntKind.signed]; omega
      go_wp2_with (at_builtin; refine appb (.tmp 17) (.tmp 20) rfl rfl rfl rfl (ho.ext ((Ext.refl _).alloc _)) (byt_one (n := m % 128 + 128) (by omega)) hbytes (by simp; omega) ?_; intro v1 w1 ho1 hb1 hg1)
      go_roundw
      case rel =>
        refine ⟨ys ++ [m % 128 + 128], m / 128, by go_num, ho1, ?_, (show Below _ _ _ from hbw).trans ((((Below.refl _ _).alloc (by omega) _)).trans hb1), ?_, by unfold W64 at hm64 ⊢; omega⟩
        · have := heq.out; rw [numL_big h128] at this; unfold Hid; rw [← this]; simp
        · have := heq.out; rw [numL_big h128] at this; have := congrArg List.length this; simp at this ⊢; omega
      case measure => simp [intOf]; omega
    · have hz : ((m : Int) / 128 == 0) = true := by rw [beq_iff_eq]; omega
      go_wp2_with (at_builtin; refine appb (.tmp 13) (.tmp 15) rfl rfl rfl rfl (ho.ext ((Ext.refl _).alloc _)) (byt_one (n := m) (by omega)) hbytes (by simp; omega) ?_; intro v1 w1 ho1 hb1 hg1)
      go_ret
      refine Keep.intro ⟨v1, rfl, ?_, (show Below _ _ _ from hbw).trans ((((Below.refl _ _).alloc (by omega) _)).trans hb1)⟩
      have := heq.out; rw [numL_small (by omega)] at this; rw [← this]; exact ho1

theorem scan_nil_of {l : List Nat} {k acc : Nat} (h : rd l = scan k acc (l.drop k)) (hk : l.length ≤ k) : rd l = (0, 0) := by
  rw [h, List.drop_eq_nil_of_le hk, scan]

end Go.Proofs.Ytdoeoncmhaihbaa
namespace Go.Proofs.Ytdoeoncmhaihbaa
set_option maxRecDepth 100000
open Go.RowKit

/-! ### Lists of numbers as bytes -/
def NuOk (l : List Int) : Prop := l.length ≤ 64 ∧ ∀ x ∈ l, -1 ≤ x
def nuL : List Int → List Nat
  | [] => []
  | x :: r => numL (x + 1).toNat ++ nuL r
theorem nuL_append (l m : List Int) : nuL (l ++ m) = nuL l ++ nuL m := by
  induction l with
  | nil => rfl
  | cons x r ih => simp [nuL, ih]
theorem nuL_len : ∀ l : List Int, (∀ x ∈ l, x ≤ 9223372036854775807) → (nuL l).length ≤ 10 * l.length
  | [], _ => by simp [nuL]
  | x :: r, h => by
    have := nuL_len r fun y hy => h y (List.mem_cons_of_mem _ hy)
    have h2 := numL_len10 (n := (x + 1).toNat) (by have := h x (List.mem_cons_self ..); unfold W64; omega)
    simp [nuL]; omega

end Go.Proofs.Ytdoeoncmhaihbaa
namespace Go.Proofs.Ytdoeoncmhaihbaa
set_option maxRecDepth 100000
open Go.RowKit

instance (l : List Int) : Decidable (NuOk l) := by unfold NuOk; exact inferInstance
def nuB (l : List Int) : List Nat := if NuOk l then nuL l else []
def nuErr (l : List Int) : Nat := if NuOk l then 0 else 11

theorem wrapNum (x : Int) (h : -1 ≤ x) (h2 : x ≤ 9223372036854775807) : IntKind.u64.wrap (IntKind.u64.wrap x + 1) = ((x + 1).toNat : Int) := by
  simp [IntKind.wrap, IntKind.bits, IntKind.signed]; omega

theorem take_one (l : List Int) (k : Nat) (h : k < l.length) : l.take (k + 1) = l.take k ++ [l[k]] := by
  rw [List.take_succ_eq_append_getElem h]

theorem nuOk_of {l : List Int} (h : l.length ≤ 64) (h2 : ∀ x ∈ l.take l.length, -1 ≤ x) : NuOk l := ⟨h, by rwa [List.take_length] at h2⟩


set_option maxRecDepth 100000 in
set_option maxHeartbeats 800000 in
theorem Nums_any (v : Value) (l : List Int) (W : World) (hI : I64s l) (h : Ints W v l) :
    Calls Try.prog 83 #[v] W fun e w' => ∃ v', e = .returned (.tuple #[v', .int .i64 (nuErr l)]) ∧ OwnB W.heap.size w' v' (nuB l) ∧ Ext W w' := by
  refine calls_keep ?_
  have no : ¬ NuOk l → ∀ e w', e = .returned (.tuple #[.slice none 0 0, .int .i64 11]) → Ext W w' → Keep (fun e w' => ∃ v', e = .returned (.tuple #[v', .int .i64 (nuErr l)]) ∧ OwnB W.heap.size w' v' (nuB l) ∧ Ext W w') e w' := by
    intro h0 e w' he hx
    exact Keep.intro ⟨_, by rw [he, nuErr, if_neg h0]; rfl, by rw [nuB, if_neg h0]; exact OwnB.nil _ _, hx⟩
  have No := hide_ no
  clear no
  by_cases hbig : 64 < l.length
  · have t0 : (decide ((64 : Int) < (l.length : Int))) = true := by simp; omega
    have hno := hide_ (show ¬ NuOk l from fun e => by have := e.1; omega)
    clear hbig
    go_enter Try.func83, Try.ntmps83
    go_wp2_with (first
      | (refine i_len (.tmp 7) rfl rfl (v := v) rfl h ?_))
    go_ret2
    exact No.out hno.out _ _ rfl (Ext.refl _)
  · have t0 : (decide ((64 : Int) < (l.length : Int))) = false := by simp; omega
    have hL := hide_ hI
    clear hI
    go_enter Try.func83, Try.ntmps83
    go_wp2_with (first
      | (refine i_len (.tmp 7) rfl rfl (v := v) rfl h ?_)
      | (refine i_len (.tmp 10) rfl rfl (v := v) rfl (h.ext (by first | exact Ext.refl _ | exact (Ext.refl _).alloc _)) ?_))
    go_loopw [4, 12] (fun out i wr => ∃ (k : Nat), i = .int .i64 k ∧ k ≤ l.length ∧ OwnB W.heap.size wr out (nuL (l.take k)) ∧ Ext W wr ∧ Hid (∀ x ∈ l.take k, -1 ≤ x))
      (fun _ i _ => l.length - (intOf i).toNat)
    case atStart => exact ⟨0, rfl, Nat.zero_le _, by simpa [nuL] using OwnB.nil _ _, Ext.refl _, fun x hx => by simp at hx⟩
    case round =>
      obtain ⟨k, rfl, hk, ho, hbw, hall⟩ := hrel
      by_cases hlt : k < l.length
      · obtain ⟨hx0, hx1⟩ := hL.out l[k] (List.getElem_mem hlt)
        have hnl : (nuL (l.take k)).length ≤ 640 := by
          have := nuL_len (l.take k) (fun x hx => (hL.out x (List.mem_of_mem_take hx)).2)
          simp at this; omega
        by_cases hneg : l[k] < -1
        · have t2 : (decide (l[k] < -1)) = true := by simpa using hneg
          have hno := hide_ (show ¬ NuOk l from fun e => by have := e.2 l[k] (List.getElem_mem hlt); omega)
          clear hneg hx0 hx1
          go_wp2_with (first
            | (refine i_idx (.tmp 10) (.tmp 12) k rfl rfl (v := v) rfl (h.ext hbw) rfl hlt ?_; intro ad had))
          go_ret2
          exact No.out hno.out _ _ rfl hbw
        · have t2 : (decide (l[k] < -1)) = false := by simp; omega
          have hw := wrapNum l[k] (by omega) hx1
          obtain ⟨y, hy⟩ : ∃ y, IntKind.u64.wrap l[k] = y := ⟨_, rfl⟩
          rw [hy] at hw
          have hx64 : W64 (l[k] + 1).toNat := by unfold W64; omega
          obtain ⟨q, hq⟩ : ∃ q, (l[k] + 1).toNat = q := ⟨_, rfl⟩
          rw [hq] at hw hx64
          have Hq := hide_ hq
          clear hq
          have hn10 := numL_len10 hx64
          have Hk := hide_ (show -1 ≤ l[k] from by omega)
          clear hneg hx0 hx1
          go_wp2_with (first
            | (refine i_idx (.tmp 10) (.tmp 12) k rfl rfl (v := v) rfl (h.ext hbw) rfl hlt ?_; intro ad had)
            | (go_at_call 86; refine (appendNum_any W.heap.size u4 (nuL (l.take k)) q _ hx64 (by omega) ho hbw.size).mono ?_; rintro e w1 ⟨v1, rfl, ho1, hb1⟩))
          go_roundw
          case rel =>
            refine ⟨k + 1, by go_num, by omega, ?_, (show Below _ _ _ from hbw).trans hb1, fun x hx => ?_⟩
            · rw [take_one l k hlt, nuL_append]; simpa [nuL, Hq.out] using ho1
            · rw [take_one l k hlt] at hx
              rcases List.mem_append.1 hx with hx | hx
              · exact hall.out x hx
              · simp at hx; subst hx; exact Hk.out
          case measure => simp [intOf]; omega
      · have hok : NuOk l := nuOk_of (by omega) (by have := hall.out; rwa [show k = l.length from by omega] at this)
        have he : l.take k = l := List.take_of_length_le (by omega)
        rw [he] at ho
        have Hok := hide_ hok
        clear hok he
        go_wp2
        go_ret2
        exact Keep.intro ⟨_, by rw [nuErr, if_pos Hok.out]; rfl, by rw [nuB, if_pos Hok.out]; exact ho, hbw⟩



set_option maxRecDepth 100000 in
set_option maxHeartbeats 800000 in
theorem refNums_any (v : Value) (l : List Int) (W : World) (hI : I64s l) (h : Ints W v l) :
    Calls Try.prog 73 #[v] W fun e w' => ∃ v', e = .returned (.tuple #[v', .int .i64 (nuErr l)]) ∧ OwnB W.heap.size w' v' (nuB l) ∧ Ext W w' := by
  refine calls_keep ?_
  have no : ¬ NuOk l → ∀ e w', e = .returned (.tuple #[.slice none 0 0, .int .i64 11]) → Ext W w' → Keep (fun e w' => ∃ v', e = .returned (.tuple #[v', .int .i64 (nuErr l)]) ∧ OwnB W.heap.size w' v' (nuB l) ∧ Ext W w') e w' := by
    intro h0 e w' he hx
    exact Keep.intro ⟨_, by rw [he, nuErr, if_neg h0]; rfl, by rw [nuB, if_neg h0]; exact OwnB.nil _ _, hx⟩
  have No := hide_ no
  clear no
  by_cases hbig : 64 < l.length
  · have t0 : (decide ((64 : Int) < (l.length : Int))) = true := by simp; omega
    have hno := hide_ (show ¬ NuOk l from fun e => by have := e.1; omega)
    clear hbig
    go_enter Try.func73, Try.ntmps73
    go_wp2_with (first
      | (refine i_len (.tmp 7) rfl rfl (v := v) rfl h ?_))
    go_ret2
    exact No.out hno.out _ _ rfl (Ext.refl _)
  · have t0 : (decide ((64 : Int) < (l.length : Int))) = false := by simp; omega
    have hL := hide_ hI
    clear hI
    go_enter Try.func73, Try.ntmps73
    go_wp2_with (first
      | (refine i_len (.tmp 7) rfl rfl (v := v) rfl h ?_)
      | (refine i_len (.tmp 11) rfl rfl (v := v) rfl (h.ext (by first | exact Ext.refl _ | exact (Ext.refl _).alloc _)) ?_))
    go_loopw [4, 13] (fun out i wr => ∃ (k : Nat), i = .int .i64 k ∧ k ≤ l.length ∧ OwnB W.heap.size wr out (nuL (l.take k)) ∧ Ext W wr ∧ Hid (∀ x ∈ l.take k, -1 ≤ x))
      (fun _ i _ => l.length - (intOf i).toNat)
    case atStart => exact ⟨0, rfl, Nat.zero_le _, by simpa [nuL] using own_empty, (Ext.refl _).alloc _, fun x hx => by simp at hx⟩
    case round =>
      obtain ⟨k, rfl, hk, ho, hbw, hall⟩ := hrel
      by_cases hlt : k < l.length
      · obtain ⟨hx0, hx1⟩ := hL.out l[k] (List.getElem_mem hlt)
        have hnl : (nuL (l.take k)).length ≤ 640 := by
          have := nuL_len (l.take k) (fun x hx => (hL.out x (List.mem_of_mem_take hx)).2)
          simp at this; omega
        by_cases hneg : l[k] < -1
        · have t2 : (decide (l[k] < -1)) = true := by simpa using hneg
          have hno := hide_ (show ¬ NuOk l from fun e => by have := e.2 l[k] (List.getElem_mem hlt); omega)
          clear hneg hx0 hx1
          go_wp2_with (first
            | (refine i_idx (.tmp 11) (.tmp 13) k rfl rfl (v := v) rfl (h.ext hbw) rfl hlt ?_; intro ad had))
          go_ret2
          exact No.out hno.out _ _ rfl hbw
        · have t2 : (decide (l[k] < -1)) = false := by simp; omega
          have hw := wrapNum l[k] (by omega) hx1
          obtain ⟨y, hy⟩ : ∃ y, IntKind.u64.wrap l[k] = y := ⟨_, rfl⟩
          rw [hy] at hw
          have hx64 : W64 (l[k] + 1).toNat := by unfold W64; omega
          obtain ⟨q, hq⟩ : ∃ q, (l[k] + 1).toNat = q := ⟨_, rfl⟩
          rw [hq] at hw hx64
          have Hq := hide_ hq
          clear hq
          have hn10 := numL_len10 hx64
          have Hk := hide_ (show -1 ≤ l[k] from by omega)
          clear hneg hx0 hx1
          go_wp2_with (first
            | (refine i_idx (.tmp 11) (.tmp 13) k rfl rfl (v := v) rfl (h.ext hbw) rfl hlt ?_; intro ad had)
            | (go_at_call 80; refine (refNum_any q _ hx64).mono ?_; rintro e w0 ⟨v0, rfl, ho0, hx0⟩)
            | (at_builtin; refine appb (.tmp 19) (.tmp 23) rfl rfl rfl rfl (ho.ext hx0) ho0.byt (by omega) (Nat.le_trans hbw.size hx0.size) ?_; intro v1 w1 ho1 hb1' hg1; have hb1 := Below.trans (Below.mono hx0 hbw.size) hb1'; clear hb1' hg1))
          go_roundw
          case rel =>
            refine ⟨k + 1, by go_num, by omega, ?_, (show Below _ _ _ from hbw).trans hb1, fun x hx => ?_⟩
            · rw [take_one l k hlt, nuL_append]; simpa [nuL, Hq.out] using ho1
            · rw [take_one l k hlt] at hx
              rcases List.mem_append.1 hx with hx | hx
              · exact hall.out x hx
              · simp at hx; subst hx; exact Hk.out
          case measure => simp [intOf]; omega
      · have hok : NuOk l := nuOk_of (by omega) (by have := hall.out; rwa [show k = l.length from by omega] at this)
        have he : l.take k = l := List.take_of_length_le (by omega)
        rw [he] at ho
        have Hok := hide_ hok
        clear hok he
        go_wp2
        go_ret2
        exact Keep.intro ⟨_, by rw [nuErr, if_pos Hok.out]; rfl, by rw [nuB, if_pos Hok.out]; exact ho, hbw⟩

end Go.Proofs.Ytdoeoncmhaihbaa
namespace Go.Proofs.Ytdoeoncmhaihbaa
set_option maxRecDepth 100000
open Go.RowKit

/-- So many numbers with which bytes begin, and what is behind them. -/
def rns : Nat → List Nat → Option (List Int × List Nat)
  | 0, l => some ([], l)
  | k + 1, l => if (rd l).2 = 0 ∨ 4611686018427387905 < (rd l).1 then none else (rns k (rdRest l)).map fun r => ((((rd l).1 : Int) - 1) :: r.1, r.2)
def rnO (c : Int) (l : List Nat) : Option (List Int × List Nat) := if c < 0 ∨ 64 < c then none else rns c.toNat l
def rnV (o : Option (List Int × List Nat)) : List Int := match o with | some r => r.1 | none => []
def rnR (o : Option (List Int × List Nat)) : List Nat := match o with | some r => r.2 | none => []
def rnE (o : Option (List Int × List Nat)) : Nat := match o with | some _ => 0 | none => 11

theorem rdRest_len (l : List Nat) : (rdRest l).length ≤ l.length := by rw [rdRest]; split <;> simp
theorem rdRest_lt' {l : List Nat} (hl : ∀ x ∈ l, x < 256) : ∀ x ∈ rdRest l, x < 256 := by
  intro x hx; rw [rdRest] at hx
  split at hx
  · simp at hx
  · exact hl x (List.mem_of_mem_drop hx)

theorem own_empty2 {w : World} {n : Nat} (hn : n = w.heap.size) : OwnB w.heap.size (w.alloc (.cells #[] 5)) (.slice (some ⟨n, 0, none⟩) 0 0) [] := by subst hn; exact own_empty
theorem own_apart {B B' : Nat} {w : World} {b nv : Value} {mm : List Nat} {ys : List Int} (hb : OwnB B w b mm) (hn : OwnI B' w nv ys) : b.ownBlock = none ∨ b.ownBlock ≠ nv.ownBlock := by
  rcases hb.2 with ⟨rfl, _⟩ | ⟨g, cap, cur, rfl, _, hg, _⟩
  · exact .inl rfl
  · refine .inr fun he => ?_
    rcases hn.2 with ⟨rfl, _⟩ | ⟨g', cap', cur', rfl, _, hg', _⟩
    · simp [Value.ownBlock] at he
    · have : g = g' := by simpa [Value.ownBlock] using he
      subst this
      rw [hg] at hg'
      injection hg' with h1
      injection h1 with _ h2
      exact absurd h2 (by decide)
theorem OwnB.kept {B : Nat} {w w' : World} {b : Value} {mm : List Nat} {row : Option Nat} (h : OwnB B w b mm) (hg : w.grownBy w' row) (hne : b.ownBlock = none ∨ b.ownBlock ≠ row) : OwnB B w' b mm := World.ownsRow.kept h hg hne

/-- b[i:], where b's fact speaks of another world than the one at hand. -/
theorem b_from0 {ops : Array Oper} {rest : List Oper} {o : Oper} {a : Act} {Q : Exit → Act → World → Prop} {w w0 : World} {v : Value} {l : List Nat} (x y : Operand) (i : Nat) (hgd : o.guard = none) (ho : o.op = .slice 96 x (some y) none none) (hv : a.eval x = v) (h : Byt w0 v l)
    (hy : a.eval y = .int .i64 i) (hj : i ≤ l.length) (k : ∀ v', Byt w0 v' (l.drop i) → wpList Try.prog ops Q rest (a.put o.dst v') w) : wpList Try.prog ops Q (o :: rest) a w := by
  have E := Try.elB
  obtain ⟨A, c, rfl, h1, h2, h3⟩ := h
  obtain ⟨i0, hi0, _, hsz, _⟩ := E.info
  have hu := E.hu
  rw [u8s_length] at *
  have key : Byt w0 (.slice (if c = i then A else A.map (·.add (i * 1))) (l.length - i) (c - i)) (l.drop i) := by
    have hl : (u8s (l.drop i)).length = l.length - i := by simp [u8s_length]
    refine ⟨_, c - i, by rw [hl], by rw [hl]; omega, by omega, fun k u hk => ?_⟩
    rw [← u8s_drop, List.getElem?_drop] at hk
    obtain ⟨ad, rfl, hc⟩ := h3 _ u hk
    have hlt : i + k < (u8s l).length := (List.getElem?_eq_some_iff.1 hk).1
    rw [u8s_length] at hlt
    refine ⟨ad.add i, by rw [if_neg (by omega)]; simp, by rw [add_add']; exact hc⟩
  have b1 : ∀ (y : Nat) (code : BoundsCode) (n : Nat), n ≤ y → (Instr.sliceBound (.int .i64 (n : Int)) y code).run Try.prog w = .ok n w := fun y code n hn => by
    simp [Instr.sliceBound, go_sem]; omega
  refine wpList_runs hgd ?_ (k _ key)
  unfold Runs execOp
  simp [ho, hv, hy, Instr.sliceAt, Instr.slice, run_underlying hu, Instr.sliceBounds, sizeOf, typeInfo, hi0, hsz, b1 l.length .sliceB i hj]

theorem rns_step {k : Nat} {l : List Nat} (h0 : (rd l).2 ≠ 0) (h1 : ¬ 4611686018427387905 < (rd l).1) : rns (k + 1) l = (rns k (rdRest l)).map fun r => ((((rd l).1 : Int) - 1) :: r.1, r.2) := by
  rw [rns, if_neg (by omega)]
theorem rns_none {k : Nat} {l : List Nat} (h : (rd l).2 = 0 ∨ 4611686018427387905 < (rd l).1) : rns (k + 1) l = none := by rw [rns, if_pos h]


end Go.Proofs.Ytdoeoncmhaihbaa
