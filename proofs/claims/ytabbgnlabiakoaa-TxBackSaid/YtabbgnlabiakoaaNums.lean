/- The contracts of wire.Nums and neaptideref01.Nums: numbers as bytes, one behind the other. -/
import Derived.Test.YtabbgnlabiakoaaInt
namespace Go.Proofs.Ytabbgnlabiakoaa
open Go.RowKit

instance (l : List Int) : Decidable (NuOk l) := by unfold NuOk; exact inferInstance
def nuB (l : List Int) : List Nat := if NuOk l then nuL l else []
def nuErr (l : List Int) : Nat := if NuOk l then 0 else 11
def I64s (l : List Int) : Prop := ∀ x ∈ l, -9223372036854775808 ≤ x ∧ x ≤ 9223372036854775807

theorem wrapNum (x : Int) (h : -1 ≤ x) (h2 : x ≤ 9223372036854775807) : IntKind.u64.wrap (IntKind.u64.wrap x + 1) = ((x + 1).toNat : Int) := by
  simp [IntKind.wrap, IntKind.bits, IntKind.signed]; omega

theorem take_one (l : List Int) (k : Nat) (h : k < l.length) : l.take (k + 1) = l.take k ++ [l[k]] := by
  rw [List.take_succ_eq_append_getElem h]

theorem nuOk_of {l : List Int} (h : l.length ≤ 64) (h2 : ∀ x ∈ l.take l.length, -1 ≤ x) : NuOk l := ⟨h, by rwa [List.take_length] at h2⟩


set_option maxRecDepth 100000 in
set_option maxHeartbeats 800000 in
theorem Nums_any (v : Value) (l : List Int) (W : World) (hI : I64s l) (h : Ints W v l) :
    Calls Try.prog 25 #[v] W fun e w' => ∃ v', e = .returned (.tuple #[v', .int .i64 (nuErr l)]) ∧ OwnB W.heap.size w' v' (nuB l) ∧ Ext W w' := by
  refine calls_keep ?_
  have no : ¬ NuOk l → ∀ e w', e = .returned (.tuple #[.slice none 0 0, .int .i64 11]) → Ext W w' → Keep (fun e w' => ∃ v', e = .returned (.tuple #[v', .int .i64 (nuErr l)]) ∧ OwnB W.heap.size w' v' (nuB l) ∧ Ext W w') e w' := by
    intro h0 e w' he hx
    exact Keep.intro ⟨_, by rw [he, nuErr, if_neg h0]; rfl, by rw [nuB, if_neg h0]; exact OwnB.nil _ _, hx⟩
  have No := hide_ no
  clear no
  by_cases hbig : 64 < l.length
  · have t0 : (decide ((64 : Int) < (l.length : Int))) = true := by simp; omega
    have hno := hide_ (show ¬ NuOk l from fun e => by have := e.1; omega)
    clear hbig
    go_enter Try.func25, Try.ntmps25
    go_wp2_with (first
      | (refine i_len (.tmp 7) rfl rfl (v := v) rfl h ?_))
    go_ret2
    exact No.out hno.out _ _ rfl (Ext.refl _)
  · have t0 : (decide ((64 : Int) < (l.length : Int))) = false := by simp; omega
    have hL := hide_ hI
    clear hI
    go_enter Try.func25, Try.ntmps25
    go_wp2_with (first
      | (refine i_len (.tmp 7) rfl rfl (v := v) rfl h ?_)
      | (refine i_len (.tmp 10) rfl rfl (v := v) rfl (h.ext (by first | exact Ext.refl _ | exact (Ext.refl _).alloc _)) ?_))
    go_loopw [4, 12] (fun out i wr => ∃ (k : Nat), i = .int .i64 k ∧ k ≤ l.length ∧ OwnB W.heap.size wr out (nuL (l.take k)) ∧ Ext W wr ∧ Hid (∀ x ∈ l.take k, -1 ≤ x))
      (fun _ i _ => l.length - (intOf i).toNat)
    case atStart => exact ⟨0, rfl, Nat.zero_le _, by simpa [nuL] using OwnB.nil _ _, Ext.refl _, fun x hx => by simp at hx⟩
    case round =>
      obtain ⟨k, rfl, hk, ho, hbw, hall⟩ := hrel
      by_cases hlt : k < l.length
      · obtain ⟨hx0, hx1⟩ := hL.out l[k] (List.getElem_mem hlt)
        have hnl : (nuL (l.take k)).length ≤ 640 := by
          have := nuL_len (l.take k) (fun x hx => (hL.out x (List.mem_of_mem_take hx)).2)
          simp at this; omega
        by_cases hneg : l[k] < -1
        · have t2 : (decide (l[k] < -1)) = true := by simpa using hneg
          have hno := hide_ (show ¬ NuOk l from fun e => by have := e.2 l[k] (List.getElem_mem hlt); omega)
          clear hneg hx0 hx1
          go_wp2_with (first
            | (refine i_idx (.tmp 10) (.tmp 12) k rfl rfl (v := v) rfl (h.ext hbw) rfl hlt ?_; intro ad had))
          go_ret2
          exact No.out hno.out _ _ rfl hbw
        · have t2 : (decide (l[k] < -1)) = false := by simp; omega
          have hw := wrapNum l[k] (by omega) hx1
          obtain ⟨y, hy⟩ : ∃ y, IntKind.u64.wrap l[k] = y := ⟨_, rfl⟩
          rw [hy] at hw
          have hx64 : W64 (l[k] + 1).toNat := by unfold W64; omega
          obtain ⟨q, hq⟩ : ∃ q, (l[k] + 1).toNat = q := ⟨_, rfl⟩
          rw [hq] at hw hx64
          have Hq := hide_ hq
          clear hq
          have hn10 := numL_len10 hx64
          have Hk := hide_ (show -1 ≤ l[k] from by omega)
          clear hneg hx0 hx1
          go_wp2_with (first
            | (refine i_idx (.tmp 10) (.tmp 12) k rfl rfl (v := v) rfl (h.ext hbw) rfl hlt ?_; intro ad had)
            | (go_at_call 30; refine (appendNum_any W.heap.size u4 (nuL (l.take k)) q _ hx64 (by omega) ho hbw.size).mono ?_; rintro e w1 ⟨v1, rfl, ho1, hb1⟩))
          go_roundw
          case rel =>
            refine ⟨k + 1, by go_num, by omega, ?_, (show Below _ _ _ from hbw).trans hb1, fun x hx => ?_⟩
            · rw [take_one l k hlt, nuL_append]; simpa [nuL, Hq.out] using ho1
            · rw [take_one l k hlt] at hx
              rcases List.mem_append.1 hx with hx | hx
              · exact hall.out x hx
              · simp at hx; subst hx; exact Hk.out
          case measure => simp [intOf]; omega
      · have hok : NuOk l := nuOk_of (by omega) (by have := hall.out; rwa [show k = l.length from by omega] at this)
        have he : l.take k = l := List.take_of_length_le (by omega)
        rw [he] at ho
        have Hok := hide_ hok
        clear hok he
        go_wp2
        go_ret2
        exact Keep.intro ⟨_, by rw [nuErr, if_pos Hok.out]; rfl, by rw [nuB, if_pos Hok.out]; exact ho, hbw⟩



set_option maxRecDepth 100000 in
set_option maxHeartbeats 800000 in
theorem refNums_any (v : Value) (l : List Int) (W : World) (hI : I64s l) (h : Ints W v l) :
    Calls Try.prog 26 #[v] W fun e w' => ∃ v', e = .returned (.tuple #[v', .int .i64 (nuErr l)]) ∧ OwnB W.heap.size w' v' (nuB l) ∧ Ext W w' := by
  refine calls_keep ?_
  have no : ¬ NuOk l → ∀ e w', e = .returned (.tuple #[.slice none 0 0, .int .i64 11]) → Ext W w' → Keep (fun e w' => ∃ v', e = .returned (.tuple #[v', .int .i64 (nuErr l)]) ∧ OwnB W.heap.size w' v' (nuB l) ∧ Ext W w') e w' := by
    intro h0 e w' he hx
    exact Keep.intro ⟨_, by rw [he, nuErr, if_neg h0]; rfl, by rw [nuB, if_neg h0]; exact OwnB.nil _ _, hx⟩
  have No := hide_ no
  clear no
  by_cases hbig : 64 < l.length
  · have t0 : (decide ((64 : Int) < (l.length : Int))) = true := by simp; omega
    have hno := hide_ (show ¬ NuOk l from fun e => by have := e.1; omega)
    clear hbig
    go_enter Try.func26, Try.ntmps26
    go_wp2_with (first
      | (refine i_len (.tmp 7) rfl rfl (v := v) rfl h ?_))
    go_ret2
    exact No.out hno.out _ _ rfl (Ext.refl _)
  · have t0 : (decide ((64 : Int) < (l.length : Int))) = false := by simp; omega
    have hL := hide_ hI
    clear hI
    go_enter Try.func26, Try.ntmps26
    go_wp2_with (first
      | (refine i_len (.tmp 7) rfl rfl (v := v) rfl h ?_)
      | (refine i_len (.tmp 11) rfl rfl (v := v) rfl (h.ext (by first | exact Ext.refl _ | exact (Ext.refl _).alloc _)) ?_))
    go_loopw [4, 13] (fun out i wr => ∃ (k : Nat), i = .int .i64 k ∧ k ≤ l.length ∧ OwnB W.heap.size wr out (nuL (l.take k)) ∧ Ext W wr ∧ Hid (∀ x ∈ l.take k, -1 ≤ x))
      (fun _ i _ => l.length - (intOf i).toNat)
    case atStart => exact ⟨0, rfl, Nat.zero_le _, by simpa [nuL] using own_empty, (Ext.refl _).alloc _, fun x hx => by simp at hx⟩
    case round =>
      obtain ⟨k, rfl, hk, ho, hbw, hall⟩ := hrel
      by_cases hlt : k < l.length
      · obtain ⟨hx0, hx1⟩ := hL.out l[k] (List.getElem_mem hlt)
        have hnl : (nuL (l.take k)).length ≤ 640 := by
          have := nuL_len (l.take k) (fun x hx => (hL.out x (List.mem_of_mem_take hx)).2)
          simp at this; omega
        by_cases hneg : l[k] < -1
        · have t2 : (decide (l[k] < -1)) = true := by simpa using hneg
          have hno := hide_ (show ¬ NuOk l from fun e => by have := e.2 l[k] (List.getElem_mem hlt); omega)
          clear hneg hx0 hx1
          go_wp2_with (first
            | (refine i_idx (.tmp 11) (.tmp 13) k rfl rfl (v := v) rfl (h.ext hbw) rfl hlt ?_; intro ad had))
          go_ret2
          exact No.out hno.out _ _ rfl hbw
        · have t2 : (decide (l[k] < -1)) = false := by simp; omega
          have hw := wrapNum l[k] (by omega) hx1
          obtain ⟨y, hy⟩ : ∃ y, IntKind.u64.wrap l[k] = y := ⟨_, rfl⟩
          rw [hy] at hw
          have hx64 : W64 (l[k] + 1).toNat := by unfold W64; omega
          obtain ⟨q, hq⟩ : ∃ q, (l[k] + 1).toNat = q := ⟨_, rfl⟩
          rw [hq] at hw hx64
          have Hq := hide_ hq
          clear hq
          have hn10 := numL_len10 hx64
          have Hk := hide_ (show -1 ≤ l[k] from by omega)
          clear hneg hx0 hx1
          go_wp2_with (first
            | (refine i_idx (.tmp 11) (.tmp 13) k rfl rfl (v := v) rfl (h.ext hbw) rfl hlt ?_; intro ad had)
            | (go_at_call 31; refine (refNum_any q _ hx64).mono ?_; rintro e w0 ⟨v0, rfl, ho0, hx0⟩)
            | (at_builtin; refine appb (.tmp 19) (.tmp 23) rfl rfl rfl rfl (ho.ext hx0) ho0.byt (by omega) (Nat.le_trans hbw.size hx0.size) ?_; intro v1 w1 ho1 hb1' hg1; have hb1 := Below.trans (Below.mono hx0 hbw.size) hb1'; clear hb1' hg1))
          go_roundw
          case rel =>
            refine ⟨k + 1, by go_num, by omega, ?_, (show Below _ _ _ from hbw).trans hb1, fun x hx => ?_⟩
            · rw [take_one l k hlt, nuL_append]; simpa [nuL, Hq.out] using ho1
            · rw [take_one l k hlt] at hx
              rcases List.mem_append.1 hx with hx | hx
              · exact hall.out x hx
              · simp at hx; subst hx; exact Hk.out
          case measure => simp [intOf]; omega
      · have hok : NuOk l := nuOk_of (by omega) (by have := hall.out; rwa [show k = l.length from by omega] at this)
        have he : l.take k = l := List.take_of_length_le (by omega)
        rw [he] at ho
        have Hok := hide_ hok
        clear hok he
        go_wp2
        go_ret2
        exact Keep.intro ⟨_, by rw [nuErr, if_pos Hok.out]; rfl, by rw [nuB, if_pos Hok.out]; exact ho, hbw⟩

end Go.Proofs.Ytabbgnlabiakoaa
