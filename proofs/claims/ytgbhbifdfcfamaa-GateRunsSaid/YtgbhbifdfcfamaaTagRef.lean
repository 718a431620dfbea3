/- The contracts of the document's Key and Of, of layer 2. -/
import Derived.Test.YtgbhbifdfcfamaaTag
namespace Go.Proofs.Ytgbhbifdfcfamaa
set_option maxRecDepth 100000
open Go.RowKit

/-- The lowest k bits of m, times the step of keys. -/
def keyPart (m : BitVec 64) (k : Nat) : BitVec 64 := BitVec.ofNat 64 (m.toNat % 2 ^ k) * 11400714819323198485#64
theorem keyPart_zero (m : BitVec 64) : keyPart m 0 = 0#64 := by
  unfold keyPart; rw [Nat.pow_zero, Nat.mod_one]; rfl
theorem keyPart_all (m : BitVec 64) : keyPart m 64 = m * 11400714819323198485#64 := by
  unfold keyPart; rw [Nat.mod_eq_of_lt m.isLt, BitVec.ofNat_toNat, BitVec.setWidth_eq]
theorem mod_pow_succ' (x k : Nat) : x % 2 ^ (k + 1) = x % 2 ^ k + 2 ^ k * (x / 2 ^ k % 2) := by
  rw [Nat.pow_succ, Nat.mod_mul]
theorem keyPart_no (m : BitVec 64) (k : Nat) (h : m.toNat / 2 ^ k % 2 = 0) : keyPart m (k + 1) = keyPart m k := by
  unfold keyPart; rw [mod_pow_succ', h, Nat.mul_zero, Nat.add_zero]
theorem ofInt_natpow (k : Nat) : BitVec.ofInt 64 ((2 : Int) ^ k) = BitVec.ofNat 64 (2 ^ k) := by
  rw [← BitVec.ofInt_natCast]; congr 1
theorem keyPart_yes (m : BitVec 64) (k : Nat) (h : m.toNat / 2 ^ k % 2 = 1) :
    IntKind.u64.wrap (((keyPart m k).toNat : Int) + IntKind.u64.wrap (11400714819323198485 * 2 ^ k)) = ((keyPart m (k + 1)).toNat : Int) := by
  have h2 : BitVec.ofInt 64 (11400714819323198485 * 2 ^ k) = BitVec.ofNat 64 (2 ^ k) * 11400714819323198485#64 := by
    rw [BitVec.ofInt_mul, ofInt_natpow, BitVec.mul_comm]; rfl
  rw [u64_wrap_bv (11400714819323198485 * 2 ^ k), h2, u64_add_bv]
  unfold keyPart
  rw [mod_pow_succ', h, Nat.mul_one, BitVec.ofNat_add, BitVec.add_mul]
theorem bit_val (m : BitVec 64) (k : Nat) : bits .and .u64 ((m.toNat : Int) / 2 ^ k) 1 = ((m.toNat / 2 ^ k % 2 : Nat) : Int) := by
  have h1 : (m.toNat : Int) / 2 ^ k = ((m.toNat / 2 ^ k : Nat) : Int) := by push_cast; rfl
  have hlt : m.toNat / 2 ^ k < 18446744073709551616 := Nat.lt_of_le_of_lt (Nat.div_le_self _ _) m.isLt
  have h2 := u64_and_nat (m.toNat / 2 ^ k) 1 hlt (by omega)
  rw [h1]
  refine h2.trans ?_
  rw [nat_mask1]

set_option maxRecDepth 100000 in
set_option maxHeartbeats 400000 in
theorem RefKey_any (n : Int) (w : World) : Calls Try.prog 41 #[.int .i64 n] w fun e w' => e = .returned (.int .u64 ((keyB n).toNat : Int)) ∧ w = w' := by
  refine calls_keep ?_
  obtain ⟨m, hm⟩ : ∃ m, m = BitVec.ofInt 64 n + 1#64 := ⟨_, rfl⟩
  have hk : Hid (IntKind.u64.wrap (IntKind.u64.wrap n + 1) = (m.toNat : Int)) := by
    have h1 : (1 : Int) = ((1#64).toNat : Int) := rfl
    unfold Hid
    rw [hm, h1, u64_wrap_bv n, u64_add_bv]
  have Hm : Hid (m * 11400714819323198485#64 = keyB n) := by unfold Hid; rw [hm]; rfl
  clear hm
  have H0 := hide_ (keyPart_zero m)
  go_enter Try.func41, Try.ntmps41
  go_wp2
  rw [hk.out]
  go_loop [3, 5] (fun s b => ∃ k : Nat, k ≤ 64 ∧ b = .int .i64 k ∧ s = .int .u64 ((keyPart m k).toNat : Int)) (fun _ i => 64 - (intOf i).toNat)
  case atStart => exact ⟨0, Nat.zero_le _, rfl, by rw [H0.out]; rfl⟩
  case round =>
    obtain ⟨k, hk, rfl, rfl⟩ := hrel
    by_cases hlt : k < 64
    · by_cases hbit : m.toNat / 2 ^ k % 2 = 1
      · have hy := hide_ (keyPart_yes m k hbit)
        have ht : (bits .and .u64 ((m.toNat : Int) / 2 ^ k) 1 == 1) = true := by rw [bit_val, hbit]; rfl
        clear hbit
        go_wp2
        rw [hy.out]
        go_round
        case rel => exact ⟨k + 1, by omega, by go_num, rfl⟩
        case measure => simp [intOf]; omega
      · have h0 : m.toNat / 2 ^ k % 2 = 0 := by omega
        have hy := hide_ (keyPart_no m k h0)
        have ht : (bits .and .u64 ((m.toNat : Int) / 2 ^ k) 1 == 1) = false := by rw [bit_val, h0]; rfl
        clear hbit h0
        go_wp2
        go_round
        case rel => exact ⟨k + 1, by omega, by go_num, by rw [hy.out]⟩
        case measure => simp [intOf]; omega
    · have hkk : k = 64 := by omega
      have Hf := hide_ (show keyPart m k = keyB n from by rw [hkk, keyPart_all, Hm.out])
      clear hkk
      go_wp2
      go_ret
      refine Keep.intro ⟨?_, rfl⟩
      show Ending.returned (.int .u64 _) = _
      rw [Hf.out]

theorem refStep_val (s : BitVec 64) (c : Nat) (hc : c < 256) : bits .xor .u64 (s.toNat : Int) (c : Int) = ((s ^^^ BitVec.ofNat 64 c).toNat : Int) := by
  have h1 : (c : Int) = ((BitVec.ofNat 64 c).toNat : Int) := by rw [BitVec.toNat_ofNat, Nat.mod_eq_of_lt (by omega)]
  rw [h1, u64_xor_bv]
theorem refMul_val (x : BitVec 64) : IntKind.u64.wrap (IntKind.u64.wrap (IntKind.u64.wrap ((x.toNat : Int) * 1099511627776) + IntKind.u64.wrap ((x.toNat : Int) * 256)) + IntKind.u64.wrap ((x.toNat : Int) * 179)) = ((x * 1099511628211#64).toNat : Int) := by
  have h1 : IntKind.u64.wrap ((x.toNat : Int) * 1099511627776) = ((x * 1099511627776#64).toNat : Int) := u64_mul_bv x 1099511627776#64
  have h2 : IntKind.u64.wrap ((x.toNat : Int) * 256) = ((x * 256#64).toNat : Int) := u64_mul_bv x 256#64
  have h3 : IntKind.u64.wrap ((x.toNat : Int) * 179) = ((x * 179#64).toNat : Int) := u64_mul_bv x 179#64
  rw [h1, h2, h3, u64_add_bv, u64_add_bv, ← BitVec.mul_add, ← BitVec.mul_add]
  rfl

set_option maxRecDepth 100000 in
set_option maxHeartbeats 400000 in
theorem RefOf_any (key : BitVec 64) (v : Value) (l : List Nat) (w : World) (hlb : ∀ x ∈ l, x < 256) (hv : Byt w v l) :
    Calls Try.prog 40 #[.int .u64 (key.toNat : Int), v] w fun e w' => e = .returned (.int .u64 ((markB key l).toNat : Int)) ∧ w = w' := by
  refine calls_keep ?_
  have hml := hv.len_le
  unfold maxLen at hml
  have hstart : Hid (bits .xor .u64 (key.toNat : Int) 14695981039346656037 = ((key ^^^ 14695981039346656037#64).toNat : Int)) := by
    unfold Hid; exact u64_xor_bv key 14695981039346656037#64
  obtain ⟨s0, hs0⟩ : ∃ s0, s0 = key ^^^ 14695981039346656037#64 := ⟨_, rfl⟩
  have Hs0 := hide_ hs0
  rw [← hs0] at hstart
  clear hs0
  have Hlb := hide_ hlb
  clear hlb
  go_enter Try.func40, Try.ntmps40
  go_wp2
  rw [hstart.out]
  go_loop [5, 6] (fun m i => ∃ j : Nat, j ≤ l.length ∧ i = .int .i64 j ∧ m = .int .u64 (((l.take j).foldl stepB s0).toNat : Int)) (fun _ i => l.length - (intOf i).toNat)
  case atStart => exact ⟨0, Nat.zero_le _, rfl, rfl⟩
  case round =>
    obtain ⟨j, hj, rfl, rfl⟩ := hrel
    by_cases hjl : j < l.length
    · have hx := Hlb.out l[j] (List.getElem_mem hjl)
      have hst := hide_ (refStep_val ((l.take j).foldl stepB s0) l[j] hx)
      have hsn : Hid ((((l.take j).foldl stepB s0) ^^^ BitVec.ofNat 64 l[j]) * 1099511628211#64 = (l.take (j + 1)).foldl stepB s0) := by
        unfold Hid; rw [take_snoc' l j hjl, List.foldl_append]; rfl
      obtain ⟨s2, hs2⟩ : ∃ s2, s2 = (l.take j).foldl stepB s0 := ⟨_, rfl⟩
      rw [← hs2] at hst hsn ⊢
      clear hs2
      have hml2 := hide_ (refMul_val (s2 ^^^ BitVec.ofNat 64 l[j]))
      go_wp2_with (first | (refine b_idx _ _ j rfl rfl rfl (by assumption) rfl hjl ?_; intro ad2 hc2) | (refine b_len _ rfl rfl rfl (by assumption) ?_))
      rw [hst.out, hml2.out, hsn.out]
      go_round
      case rel => exact ⟨j + 1, by omega, by go_num, rfl⟩
      case measure => simp [intOf]; omega
    · have hjj : j = l.length := by omega
      have Hf := hide_ (show bits .xor .u64 ((((l.take j).foldl stepB s0).toNat : Int)) ((((l.take j).foldl stepB s0).toNat : Int) / 536870912) = ((markB key l).toNat : Int) from by
        rw [hjj, List.take_length, Hs0.out]; exact finB_val _)
      clear hjj
      go_wp2_with (refine b_len _ rfl rfl rfl (by assumption) ?_)
      go_ret
      refine Keep.intro ⟨?_, rfl⟩
      show Ending.returned (.int .u64 _) = _
      rw [Hf.out]
end Go.Proofs.Ytgbhbifdfcfamaa
