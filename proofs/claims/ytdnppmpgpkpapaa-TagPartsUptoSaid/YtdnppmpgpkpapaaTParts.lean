/- The statement TagParts in its second form: however bytes are cut, the mark is the same. Condition: what comes in is of bulk at most 1048576 (the bytes of all parts, put together, are a slice that the call makes). -/
import Derived.Test.YtdnppmpgpkpapaaTNames
import Derived.Test.YtdnppmpgpkpapaaArgA
import Derived.Deep.Cut
import Derived.Test.YtdnppmpgpkpapaaLiftU
namespace Go.Proofs.Ytdnppmpgpkpapaa
open Go.RowKit Go.ChangeShapes Go.WideShapes Go.ChangeAt

theorem take_flatten_len (ls : List (List Nat)) (k : Nat) : (ls.take k).flatten.length ≤ ls.flatten.length := by
  conv => rhs; rw [← List.take_append_drop k ls]
  rw [List.flatten_append, List.length_append]; omega

set_option maxRecDepth 100000 in
set_option maxHeartbeats 1000000 in
theorem tagParts_bv (key : BitVec 64) (v : Value) (ls : List (List Nat)) (W : World) (hv : Parts W v ls) (hb : ∀ l ∈ ls, ∀ x ∈ l, x < 256) (hn : ls.flatten.length ≤ 1048576) :
    Calls Try.prog 6 #[.int .u64 (key.toNat : Int), v] W fun e w' => e = .returned (.bool true) ∧ Ext W w' := by
  refine calls_keep ?_
  have hv' := hv
  obtain ⟨vs, hs, hlen, hparts⟩ := hv'
  have hP := hide_ hparts
  have hL := hide_ hlen
  have hm := hs.len_le
  unfold maxLen at hm
  have HB := hide_ hb
  obtain ⟨L, hLL⟩ : ∃ L, L = ls.flatten := ⟨_, rfl⟩
  have HL := hide_ hLL
  have hLb := hide_ (show ∀ x ∈ L, x < 256 from by
    intro x hx; rw [hLL] at hx; obtain ⟨l, hl, hxl⟩ := List.mem_flatten.1 hx; exact hb l hl x hxl)
  have HBL := hide_ (show ∀ l ∈ [L], ∀ x ∈ l, x < 256 from by simpa using hLb.out)
  have F1 := hide_ (show [L].flatten = L from by simp)
  clear hparts hlen hLL hb
  go_enter Try.func6, Try.ntmps6
  go_wp2_with (first
    | (refine w_bytes (o := ⟨some 8, _, _, _, _, _⟩) [] rfl rfl rfl rfl (by omega) ?_; intro v8 w8 hx8 ho8; have hs8 := hs.ext hx8)
    | (refine w_len Try.elBB _ rfl rfl rfl hs8 ?_))
  obtain ⟨wo, hwo⟩ : ∃ wo : World, wo = w8 := ⟨_, rfl⟩
  rw [← hwo] at hx8 ho8 hs8 ⊢
  clear hwo
  go_loopw [5, 11] (fun a i wr => ∃ k : Nat, k ≤ vs.length ∧ i = .int .i64 k ∧ OwnB W.heap.size wr a (ls.take k).flatten ∧ Ext W wr) (fun _ i _ => vs.length - (intOf i).toNat)
  case atStart => exact ⟨0, Nat.zero_le _, rfl, ho8, hx8⟩
  case round =>
    obtain ⟨k, hk, rfl, ho, hX⟩ := hrel
    have hsz := hX.size
    by_cases hlt : k < vs.length
    · have hkl : k < ls.length := by rw [← hL.out]; exact hlt
      have hB := (hP.out k vs[k] ls[k] (List.getElem?_eq_getElem hlt) (List.getElem?_eq_getElem hkl)).ext hX
      have hsr := hs.ext hX
      obtain ⟨u, hu⟩ : ∃ u, u = vs[k] := ⟨_, rfl⟩
      obtain ⟨l, hl⟩ : ∃ l, l = ls[k] := ⟨_, rfl⟩
      obtain ⟨t, htt⟩ : ∃ t, t = (ls.take k).flatten := ⟨_, rfl⟩
      have Ht := hide_ (show t ++ l = (ls.take (k + 1)).flatten from by rw [htt, hl, take_snoc' ls k hkl, List.flatten_append]; simp)
      have hlen2 : t.length + l.length ≤ 140737488355328 := by
        have h1 := take_flatten_len ls (k + 1)
        rw [← Ht.out, List.length_append] at h1; omega
      rw [← hu, ← hl] at hB
      rw [← htt] at ho
      have Hu := hide_ hu
      clear hl hu htt
      go_wp2_with (first
        | (refine w_idx Try.elBB _ _ k rfl rfl rfl (by assumption) rfl hlt ?_; intro ad hc; rw [← Hu.out] at hc)
        | (at_builtin; refine appb (o := ⟨some 17, _, _, _, _, _⟩) (.tmp 15) (.tmp 16) rfl rfl rfl rfl ho hB hlen2 hsz ?_; intro v17 w17 ho17 hb17 hg17))
      go_roundw
      case rel => exact ⟨k + 1, by omega, by go_num, by rw [← Ht.out]; exact ho17, hX.trans' hb17⟩
      case measure => simp [intOf]; omega
    · have hkk : k = vs.length := by omega
      have He := hide_ (show (ls.take k).flatten = L from by rw [hkk, hL.out, List.take_length, HL.out])
      clear hkk
      rw [He.out] at ho
      have hby := ho.byt
      have hpp := hv.ext hX
      clear ho hs hv hs8 hx8 ho8
      go_wp2_with (first
        | (go_at_call 3; refine (tagNames_any _).mono ?_; rintro e w1 ⟨rfl, hx1⟩; have K1 := hby.ext hx1; have K2 := hpp.ext hx1; have Y1 := hX.trans hx1; clear hby hpp)
        | (go_at_call 10; ((with_reducible refine (Of_any key v ls _ HB.out K2).mono ?_); rintro e w3 ⟨rfl, rfl⟩; rw [← HL.out]))
        | (refine w_yes _ _ _ rfl rfl rfl ?_; refine w_parts (o := ⟨some 26, _, _, _, _, _⟩) [_] [L] rfl rfl rfl rfl (byts1 K1) rfl (by omega) ?_; intro v26 w26 hx26 hp26; have M1 := K1.ext hx26; have M2 := K2.ext hx26; have Y26 := Y1.trans hx26)
        | (go_at_call 10; ((with_reducible refine (Of_any key v26 [L] _ HBL.out hp26).mono ?_); rintro e w3 ⟨rfl, rfl⟩; rw [F1.out]; clear K1 K2; have K2 := M2))
        | (go_at_call 11; ((with_reducible refine (Right_any key (markB key L) _ L _ hLb.out M1 true (decide_eq_true rfl)).mono ?_); rintro e w36 ⟨rfl, hx36⟩; have Y36 := Y26.trans hx36)))
      go_ret
      exact Keep.intro ⟨rfl, Y36⟩

theorem tagParts_law (a : Nat) (v : Value) (ls : List (List Nat)) (W : World) (ha : a < 18446744073709551616) (hv : Parts W v ls) (hb : ∀ l ∈ ls, ∀ x ∈ l, x < 256) (hn : ls.flatten.length ≤ 1048576) :
    Calls Try.prog 6 #[.int .u64 a, v] W fun e w' => e = .returned (.bool true) ∧ Ext W w' := by
  have h := tagParts_bv (BitVec.ofNat 64 a) v ls W hv hb hn
  rw [BitVec.toNat_ofNat, Nat.mod_eq_of_lt ha] at h
  exact h

set_option maxRecDepth 100000 in
theorem tagPartsUpto_lifted (os : Os) (started : os.Started) (H : Type) (enc : TypeId × Value → H) (F : Stop.Interp) :
    ReturnsInHanded {} Try.checked os 6 .any ((Rows.OpenSpec.upto Rows.tagPartsSpec).pre6 enc Try.prog Try.f6 Rows.tagPartsUptoRow.domain false) (((Rows.OpenSpec.upto Rows.tagPartsSpec).at F).post enc Try.prog Try.f6 false true false false) := by
  refine law_lifted_upto (F := F) (s := Rows.tagPartsSpec) (conds := Rows.tagPartsUptoRow.domain) Try.func6 (by kernel_rfl) rfl (fun H ds h => by
      rw [show Try.f6.params.size = 2 from rfl] at h
      match ds, h with
      | [d0, d1], _ => rfl) rfl rfl (by decide +kernel) os started H enc
    (OpenSpec.witness (enc := enc) (C := Try.checked) (s := Rows.OpenSpec.upto Rows.tagPartsSpec) (k := Rows.uptoSmall) rfl false ⟨#[], #[.int .u64 0, .slice none 0 0], []⟩ 8 (by kernel_rfl) (by kernel_rfl) (by kernel_rfl) (x := ([.lit (.int .u64 0), .nil], [], [])) (by kernel_rfl) rfl (by kernel_rfl)) ?_
  intro W base args ds p hval hA hsz _ hbulk
  have hp : Try.f6.params.toList = [22, 30] := rfl
  rw [hp] at hA hsz
  obtain ⟨v0, v1, d0, d1, p0, p1, rfl, rfl, rfl, h0, h1⟩ := trodAll_two hA
  obtain ⟨a0, rfl, b0⟩ := arg_u64 (hval 0 22 v0 rfl rfl) h0
  obtain ⟨l1, a1, b1, c1⟩ := arg_parts (hval 1 30 v1 rfl rfl) h1
  exact tagParts_law a0 v1 l1 W b0 a1 b1 (by simp only [Rows.uptoBulkAll] at hbulk; omega)

theorem tagPartsUpto_holds : Rows.TagPartsUptoSaid :=
  OpenClaim.holds_of_cond 6 Try.f6 rfl rfl rfl rfl rfl rfl rfl ⟨rfl, rfl, rfl, rfl, rfl⟩ rfl rfl rfl rfl rfl (by kernel_rfl) Try.func6 (by kernel_rfl)
    (of_decide_eq_true (by kernel_rfl)) (by unfold Func.isWrapper; first | (rw [if_pos (by decide +kernel)]; kernel_rfl) | (rw [if_neg (by decide +kernel)]; exact ⟨rfl, rfl⟩))
    (fun os started H enc _ F => tagPartsUpto_lifted os started H enc F)
#print axioms tagPartsUpto_holds

end Go.Proofs.Ytdnppmpgpkpapaa
