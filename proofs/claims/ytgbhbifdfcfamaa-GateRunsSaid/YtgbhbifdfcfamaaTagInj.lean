/- Marks part: what unlike keys, an unlike byte and an unlike end do to a mark. -/
import Derived.Test.YtgbhbifdfcfamaaTag
namespace Go.Proofs.Ytgbhbifdfcfamaa
set_option maxRecDepth 100000

theorem mul_factor_inj {x y : BitVec 64} (h : x * 1099511628211#64 = y * 1099511628211#64) : x = y := by
  have hf : (1099511628211#64 : BitVec 64) * 14886173955864302971#64 = 1#64 := by decide +kernel
  have h2 := congrArg (· * 14886173955864302971#64) h
  simp only [BitVec.mul_assoc, hf, BitVec.mul_one] at h2
  exact h2
theorem xor_right_inj' {x y c : BitVec 64} (h : x ^^^ c = y ^^^ c) : x = y := by
  have h2 := congrArg (· ^^^ c) h
  simp only [BitVec.xor_assoc, BitVec.xor_self, BitVec.xor_zero] at h2
  exact h2
theorem stepB_inj {x y : BitVec 64} {c : Nat} (h : stepB x c = stepB y c) : x = y := xor_right_inj' (mul_factor_inj h)
theorem stepB_byte {x : BitVec 64} {c d : Nat} (hc : c < 256) (hd : d < 256) (h : stepB x c = stepB x d) : c = d := by
  have h1 := mul_factor_inj h
  rw [BitVec.xor_comm x, BitVec.xor_comm x] at h1
  have h2 := congrArg BitVec.toNat (xor_right_inj' h1)
  rw [BitVec.toNat_ofNat, BitVec.toNat_ofNat, Nat.mod_eq_of_lt (by omega), Nat.mod_eq_of_lt (by omega)] at h2
  exact h2
theorem finB_back (x : BitVec 64) : (finB x ^^^ (finB x >>> 29)) ^^^ (finB x >>> 58) = x := by
  have h3 : x >>> 87 = 0#64 := by
    apply BitVec.eq_of_toNat_eq
    have h2 : (2 : Nat) ^ 64 ≤ 2 ^ 87 := Nat.pow_le_pow_right (by omega) (by omega)
    rw [BitVec.toNat_ushiftRight, Nat.shiftRight_eq_div_pow, Nat.div_eq_of_lt (by have := x.isLt; omega)]; rfl
  have h1 : x >>> 29 >>> 29 = x >>> 58 := by rw [← BitVec.shiftRight_add]
  have h2 : x >>> 29 >>> 58 = x >>> 87 := by rw [← BitVec.shiftRight_add]
  unfold finB
  rw [BitVec.ushiftRight_xor_distrib, BitVec.ushiftRight_xor_distrib, h1, h2, h3, BitVec.xor_zero]
  have h4 : (x ^^^ x >>> 29 ^^^ (x >>> 29 ^^^ x >>> 58)) ^^^ x >>> 58 = x ^^^ ((x >>> 29 ^^^ x >>> 29) ^^^ (x >>> 58 ^^^ x >>> 58)) := by
    simp only [BitVec.xor_assoc]
  rw [h4, BitVec.xor_self, BitVec.xor_self, BitVec.xor_self, BitVec.xor_zero]
theorem finB_inj {x y : BitVec 64} (h : finB x = finB y) : x = y := by rw [← finB_back x, ← finB_back y, h]
theorem foldl_inj : ∀ (l : List Nat) {x y : BitVec 64}, l.foldl stepB x = l.foldl stepB y → x = y
  | [], _, _, h => h
  | _ :: l, _, _, h => stepB_inj (foldl_inj l h)
theorem markB_key {a b : BitVec 64} {l : List Nat} : (markB a l = markB b l) ↔ a = b :=
  ⟨fun h => xor_right_inj' (foldl_inj l (finB_inj h)), fun h => by rw [h]⟩
theorem markB_set {a : BitVec 64} {l : List Nat} {i x : Nat} (hi : i < l.length) (hx : x < 256) (hl : l[i] < 256) (hne : l[i] ≠ x) : markB a (l.set i x) ≠ markB a l := by
  intro h
  have h1 := finB_inj h
  have e1 : l = l.take i ++ l[i] :: l.drop (i + 1) := by rw [← List.drop_eq_getElem_cons hi, List.take_append_drop]
  have e2 : l.set i x = l.take i ++ x :: l.drop (i + 1) := List.set_eq_take_append_cons_drop .. |>.trans (if_pos hi)
  rw [e2] at h1
  conv at h1 => rhs; rw [e1]
  rw [List.foldl_append, List.foldl_append, List.foldl_cons, List.foldl_cons] at h1
  exact hne (stepB_byte hl hx (foldl_inj _ h1).symm)
theorem markB_last {a : BitVec 64} {l : List Nat} {x y : Nat} (hx : x < 256) (hy : y < 256) (hne : x ≠ y) : markB a (l ++ [x]) ≠ markB a (l ++ [y]) := by
  intro h
  have h1 := finB_inj h
  rw [List.foldl_append, List.foldl_append] at h1
  exact hne (stepB_byte hx hy h1)
end Go.Proofs.Ytgbhbifdfcfamaa
