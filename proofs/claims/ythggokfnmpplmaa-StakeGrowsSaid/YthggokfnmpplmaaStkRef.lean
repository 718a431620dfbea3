/- The contracts of the document's Check, Sum, Most, Some and Few. Condition: but for Check, stakes that can be. -/
import Derived.Test.YthggokfnmpplmaaStkMost
namespace Go.Proofs.Ythggokfnmpplmaa
open Go.RowKit

set_option maxRecDepth 100000 in
set_option maxHeartbeats 800000 in
theorem RefCheck_any (v : Value) (l : List Int) (W : World) (h : Ints W v l) :
    Calls Try.prog 12 #[v] W fun e w' => e = .returned (.int .i64 (chk l)) ∧ w' = W := by
  refine calls_keep ?_
  by_cases h1 : l.length < 1
  · have t0 : (((l.length : Int)) == 0) = true := by rw [beq_iff_eq]; omega
    have hc := hide_ (show chk l = 31 from if_neg fun e => by have := e.1; omega)
    clear h1
    go_enter Try.func12, Try.ntmps12
    go_wp2_with (first
      | (refine i_len (.tmp 5) rfl rfl (v := v) rfl h ?_))
    go_ret
    exact Keep.intro ⟨by rw [hc.out]; rfl, rfl⟩
  have t0 : (((l.length : Int)) == 0) = false := by rw [beq_eq_false_iff_ne]; omega
  by_cases h2 : 7 < l.length
  · have t1 : (decide ((7 : Int) < (l.length : Int))) = true := by simp; omega
    have hc := hide_ (show chk l = 31 from if_neg fun e => by have := e.2.1; omega)
    clear h1 h2
    go_enter Try.func12, Try.ntmps12
    go_wp2_with (first
      | (refine i_len (.tmp 5) rfl rfl (v := v) rfl h ?_)
      | (refine w_yes _ _ _ rfl rfl rfl ?_; refine i_len (.tmp 9) rfl rfl (v := v) rfl h ?_))
    go_ret
    exact Keep.intro ⟨by rw [hc.out]; rfl, rfl⟩
  have t1 : (decide ((7 : Int) < (l.length : Int))) = false := by simp; omega
  have hb := hide_ (show 1 ≤ l.length ∧ l.length ≤ 7 from by omega)
  go_enter Try.func12, Try.ntmps12
  go_wp2_with (first
    | (refine i_len (.tmp 5) rfl rfl (v := v) rfl h ?_)
    | (refine w_yes _ _ _ rfl rfl rfl ?_; refine i_len (.tmp 9) rfl rfl (v := v) rfl h ?_)
    | (refine i_len (.tmp 13) rfl rfl (v := v) rfl h ?_))
  go_loopw [15] (fun i wr => ∃ (k : Nat), i = .int .i64 k ∧ k ≤ l.length ∧ wr = W ∧ Hid (∀ x ∈ l.take k, 1 ≤ x ∧ x ≤ 1000000))
    (fun i _ => l.length - (intOf i).toNat)
  case atStart => exact ⟨0, rfl, Nat.zero_le _, rfl, fun x hx => by simp at hx⟩
  case round =>
    obtain ⟨k, rfl, hk, rfl, hall⟩ := hrel
    by_cases hlt : k < l.length
    · by_cases hlo : l[k] < 1
      · have t2 : (decide (l[k] < 1)) = true := by simpa using hlo
        have hc := hide_ (show chk l = 31 from if_neg fun e => by have := e.2.2 l[k] (List.getElem_mem hlt); omega)
        clear hlo
        go_wp2_with (first
          | (refine i_idx (.tmp 13) (.tmp 15) k rfl rfl (v := v) rfl h rfl hlt ?_; intro ad had))
        go_ret
        exact Keep.intro ⟨by rw [hc.out]; rfl, rfl⟩
      · have t2 : (decide (l[k] < 1)) = false := by simpa using hlo
        by_cases hhi : 1000000 < l[k]
        · have t3 : (decide (1000000 < l[k])) = true := by simpa using hhi
          have hc := hide_ (show chk l = 31 from if_neg fun e => by have := e.2.2 l[k] (List.getElem_mem hlt); omega)
          clear hlo hhi
          go_wp2_with (first
            | (refine i_idx (.tmp 13) (.tmp 15) k rfl rfl (v := v) rfl h rfl hlt ?_; intro ad had))
          go_ret
          exact Keep.intro ⟨by rw [hc.out]; rfl, rfl⟩
        · have t3 : (decide (1000000 < l[k])) = false := by simpa using hhi
          have hx := hide_ (show 1 ≤ l[k] ∧ l[k] ≤ 1000000 from by omega)
          clear hlo hhi
          go_wp2_with (first
            | (refine i_idx (.tmp 13) (.tmp 15) k rfl rfl (v := v) rfl h rfl hlt ?_; intro ad had))
          go_roundw
          case rel =>
            refine ⟨k + 1, by go_num, by omega, by trivial, fun x hm => ?_⟩
            rw [List.take_succ_eq_append_getElem hlt] at hm
            rcases List.mem_append.1 hm with hm | hm
            · exact hall.out x hm
            · simp at hm; subst hm; exact hx.out
          case measure => simp [intOf]; omega
    · have hc := hide_ (show chk l = 0 from if_pos ⟨hb.out.1, hb.out.2, by have := hall.out; rwa [List.take_of_length_le (by omega)] at this⟩)
      go_wp2
      go_ret
      exact Keep.intro ⟨by rw [hc.out]; rfl, rfl⟩

set_option maxRecDepth 100000 in
set_option maxHeartbeats 1600000 in
theorem RefSum_of {W : World} {v u : Value} {t who : List Int} (h : Asked W v u t who) :
    Calls Try.prog 13 #[v, u] W fun e w' => e = .returned (.tuple #[.int .i64 (sumS t who), .int .i64 (totS t)]) ∧ w' = W := by
  refine calls_keep ?_
  have Ht := hide_ h.ok
  have h1 := h.st
  have h2 := h.set
  have hl7 := h.ok.2.1
  have hlw := h.len
  clear h
  go_enter Try.func13, Try.ntmps13
  go_wp2_with (first
    | (refine i_len (.tmp 13) rfl rfl (v := v) rfl h1 ?_))
  go_loopw [6, 7, 15] (fun s z i wr => ∃ (k : Nat), i = .int .i64 k ∧ k ≤ t.length ∧ s = .int .i64 (ws t (inn who) k) ∧ z = .int .i64 (ws t (fun _ => true) k) ∧ wr = W)
    (fun _ _ i _ => t.length - (intOf i).toNat)
  case atStart => exact ⟨0, rfl, Nat.zero_le _, rfl, rfl, rfl⟩
  case round =>
    obtain ⟨k, rfl, hk, rfl, rfl, rfl⟩ := hrel
    by_cases hlt : k < t.length
    · obtain ⟨s, hs⟩ : ∃ s, s = ws t (inn who) k := ⟨_, rfl⟩
      obtain ⟨z, hz⟩ : ∃ z, z = ws t (fun _ => true) k := ⟨_, rfl⟩
      have hsb := ws_bd Ht.out (inn who) hk
      have hzb := ws_bd Ht.out (fun _ => true) hk
      rw [← hs] at hsb ⊢
      rw [← hz] at hzb ⊢
      have Hs := hide_ hs
      have Hz := hide_ hz
      clear hs hz
      have hx := Ht.out.at hlt
      go_wp2_with (first
        | (refine i_idx (.tmp 13) (.tmp 15) k rfl rfl (v := v) rfl h1 rfl hlt ?_; intro ad had)
        | (refine i_len (.tmp 20) rfl rfl (v := u) rfl h2 ?_))
      go_loopw [10, 22] (fun b j wr2 => ∃ (m : Nat), j = .int .i64 m ∧ m ≤ who.length ∧ b = .bool (inn (who.take m) k) ∧ wr2 = wr)
        (fun _ j _ => who.length - (intOf j).toNat)
      case atStart => exact ⟨0, rfl, Nat.zero_le _, rfl, rfl⟩
      case round =>
        obtain ⟨m, rfl, hm, rfl, rfl⟩ := hrel
        by_cases hml : m < who.length
        · have Hin := hide_ (inn_step who k hml)
          cases hb : inn (who.take m) k
          · rw [hb] at Hin
            clear hb
            go_wp2_with (first
              | (refine i_idx (.tmp 20) (.tmp 22) m rfl rfl (v := u) rfl h2 rfl hml ?_; intro ad had))
            go_roundw
            case rel => exact ⟨m + 1, by go_num, by omega, by rw [Hin.out]; rfl, by trivial⟩
            case measure => simp [intOf]; omega
          · rw [hb] at Hin
            clear hb
            go_wp2_with (first
              | (refine i_idx (.tmp 20) (.tmp 22) m rfl rfl (v := u) rfl h2 rfl hml ?_; intro ad had))
            go_roundw
            case rel => exact ⟨m + 1, by go_num, by omega, by rw [Hin.out]; rfl, by trivial⟩
            case measure => simp [intOf]; omega
        · obtain rfl : m = who.length := by omega
          rw [List.take_length]
          have Ha := hide_ (ws_step t (inn who) hlt)
          have Hb := hide_ (ws_step t (fun _ => true) hlt)
          cases hb : inn who k
          · rw [hb] at Ha
            clear hb
            go_wp2
            go_roundw
            case rel => exact ⟨k + 1, by go_num, by omega, by rw [Ha.out, ← Hs.out]; simp, by rw [Hb.out, ← Hz.out]; simp, by trivial⟩
            case measure => simp [intOf]; omega
          · rw [hb] at Ha
            clear hb
            go_wp2
            go_roundw
            case rel => exact ⟨k + 1, by go_num, by omega, by rw [Ha.out, ← Hs.out]; simp, by rw [Hb.out, ← Hz.out]; simp, by trivial⟩
            case measure => simp [intOf]; omega
    · obtain rfl : k = t.length := by omega
      go_wp2
      go_ret2
      exact Keep.intro ⟨rfl, rfl⟩

set_option maxRecDepth 100000 in
theorem RefMost_of {W : World} {v u : Value} {t who : List Int} (h : Asked W v u t who) : Calls Try.prog 16 #[v, u] W fun e w' => e = .returned (.bool (most t who)) ∧ w' = W := by
  refine calls_keep ?_
  obtain ⟨s, hs⟩ : ∃ s, s = sumS t who := ⟨_, rfl⟩
  obtain ⟨z, hz⟩ : ∃ z, z = totS t := ⟨_, rfl⟩
  have hsb := sumS_bd h.ok who
  have hzb := totS_bd h.ok
  rw [← hs] at hsb
  rw [← hz] at hzb
  have hm := hide_ (show most t who = decide (2 * z < 3 * s) from by rw [hs, hz]; rfl)
  have Hs := hide_ hs
  have Hz := hide_ hz
  clear hs hz
  go_enter Try.func16, Try.ntmps16
  go_wp2_with (first
    | (go_at_call 13; refine (RefSum_of h).mono ?_; rintro e w1 ⟨rfl, rfl⟩; rw [← Hs.out, ← Hz.out]))
  go_ret
  exact Keep.intro ⟨by rw [hm.out]; rfl, rfl⟩

set_option maxRecDepth 100000 in
theorem RefSome_of {W : World} {v u : Value} {t who : List Int} (h : Asked W v u t who) : Calls Try.prog 18 #[v, u] W fun e w' => e = .returned (.bool (some3 t who)) ∧ w' = W := by
  refine calls_keep ?_
  obtain ⟨s, hs⟩ : ∃ s, s = sumS t who := ⟨_, rfl⟩
  obtain ⟨z, hz⟩ : ∃ z, z = totS t := ⟨_, rfl⟩
  have hsb := sumS_bd h.ok who
  have hzb := totS_bd h.ok
  rw [← hs] at hsb
  rw [← hz] at hzb
  have hm := hide_ (show some3 t who = decide (z < 3 * s) from by rw [hs, hz]; rfl)
  have Hs := hide_ hs
  have Hz := hide_ hz
  clear hs hz
  go_enter Try.func18, Try.ntmps18
  go_wp2_with (first
    | (go_at_call 13; refine (RefSum_of h).mono ?_; rintro e w1 ⟨rfl, rfl⟩; rw [← Hs.out, ← Hz.out]))
  go_ret
  exact Keep.intro ⟨by rw [hm.out]; rfl, rfl⟩

set_option maxRecDepth 100000 in
theorem RefFew_of {W : World} {v u : Value} {t who : List Int} (h : Asked W v u t who) : Calls Try.prog 20 #[v, u] W fun e w' => e = .returned (.bool (few t who)) ∧ w' = W := by
  refine calls_keep ?_
  obtain ⟨s, hs⟩ : ∃ s, s = sumS t who := ⟨_, rfl⟩
  obtain ⟨z, hz⟩ : ∃ z, z = totS t := ⟨_, rfl⟩
  have hsb := sumS_bd h.ok who
  have hzb := totS_bd h.ok
  rw [← hs] at hsb
  rw [← hz] at hzb
  have hm := hide_ (show few t who = decide (3 * s < z) from by rw [hs, hz]; rfl)
  have Hs := hide_ hs
  have Hz := hide_ hz
  clear hs hz
  go_enter Try.func20, Try.ntmps20
  go_wp2_with (first
    | (go_at_call 13; refine (RefSum_of h).mono ?_; rintro e w1 ⟨rfl, rfl⟩; rw [← Hs.out, ← Hz.out]))
  go_ret
  exact Keep.intro ⟨by rw [hm.out]; rfl, rfl⟩

end Go.Proofs.Ythggokfnmpplmaa
