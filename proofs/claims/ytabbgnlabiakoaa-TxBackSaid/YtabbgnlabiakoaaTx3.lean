/- The contract of tx.anyTwice: has one number two transactions? -/
import Derived.Test.YtabbgnlabiakoaaTx2
import Derived.Test.YtabbgnlabiakoaaNTo
namespace Go.Proofs.Ytabbgnlabiakoaa
open Go.RowKit

def twice (l : List TxD) : Bool := decide (¬ (l.map TxD.id).Nodup)
theorem twice_yes {l : List TxD} {i k : Nat} {x y : TxD} (hik : i < k) (hi : l[i]? = some x) (hk : l[k]? = some y) (h : x.id = y.id) : twice l = true := by
  refine decide_eq_true fun hn => ?_
  have hkl := (List.getElem?_eq_some_iff.1 hk).1
  have := List.pairwise_iff_getElem.1 hn i k (by simp; omega) (by simpa using hkl) hik
  rw [List.getElem?_eq_getElem (by omega)] at hi
  rw [List.getElem?_eq_getElem hkl] at hk
  injection hi with hi
  injection hk with hk
  simp only [List.getElem_map] at this
  exact this (by rw [hi, hk]; exact h)
theorem twice_no {l : List TxD} (h : ∀ i k, i < k → k < l.length → ∀ x y, l[i]? = some x → l[k]? = some y → x.id ≠ y.id) : twice l = false := by
  refine decide_eq_false fun hn => hn ?_
  refine List.pairwise_iff_getElem.2 fun i k hi hk hik => ?_
  simp only [List.length_map] at hi hk
  simp only [List.getElem_map]
  exact h i k hik hk _ _ (List.getElem?_eq_getElem hi) (List.getElem?_eq_getElem hk)

set_option maxRecDepth 100000 in
set_option maxHeartbeats 1600000 in
theorem anyTwice_any {v : Value} {l : List TxD} {W : World} (hl : Recs 2 TxR W v l) :
    Calls Try.prog 27 #[v] W fun e w' => e = .returned (.bool (twice l)) ∧ Ext W w' := by
  refine calls_keep ?_
  have hmax : l.length ≤ 9223372036854775807 := by have := hl.len_le; unfold maxLen at this; omega
  go_enter Try.func27, Try.ntmps27
  go_wp2_with ((first
    | (refine w_rlen Try.elTx _ rfl rfl (v := v) rfl hl ?_)
    | fail) <;> (try simp only [Act.put, List.setIfInBounds_toArray, List.set_cons_zero, List.set_cons_succ]))
  go_loopw [9] (fun i wr => ∃ k : Nat, i = .int .i64 k ∧ k ≤ l.length ∧ Hid (∀ i j, i < j → j < k → ∀ x y, l[i]? = some x → l[j]? = some y → x.id ≠ y.id) ∧ Ext W wr) (fun i _ => l.length - (intOf i).toNat)
  case atStart => exact ⟨0, rfl, Nat.zero_le _, fun i j _ h => by omega, Ext.refl _⟩
  case round =>
    obtain ⟨k, rfl, hk, hn, hX⟩ := hrel
    by_cases hlt : k < l.length
    · have t1 : decide (k < l.length) = true := by simpa using hlt
      obtain ⟨d, hd⟩ : ∃ d, l[k] = d := ⟨_, rfl⟩
      have hdk := hide_ (show l[k]? = some d from by rw [List.getElem?_eq_getElem hlt, hd])
      have hlk := hide_ hd
      have htk := hide_ (show (l.take k).length = k from by simp; omega)
      clear hd
      go_wp2_with ((first
        | (refine w_ridx0 Try.elTx _ _ k TxR.stays rfl rfl (v := v) rfl rfl hl hX hlt ?_; rintro p row hrow hrl ⟨rfl, hraw⟩; rw [hlk.out] at hrow)
        | (refine w_pload Try.stTx _ rfl rfl rfl (hrow.ext hX) rfl ?_)
        | (refine w_alloc Try.stTx rfl rfl ?_; intro g4 w4 hg4 hx4 f4)
        | (refine w_astore Try.stTx (us := [.int .i64 d.id, .int .i64 d.fee]) _ _ rfl rfl rfl rfl rfl f4 rfl rfl d.one ?_; intro w5 hm5 f5; replace f4 := f5; have hx := hm5.after hx4 (fun i e => e ▸ hg4); replace hX := hX.trans hx; clear f5 hm5 hx4 hg4 hx hrow hrl hraw)
        | (refine w_nto0 Try.elTx _ _ k rfl rfl (v := v) rfl rfl hl (by omega) ?_; intro vs hs)
        | (refine w_rlen Try.elTx _ rfl rfl (v := vs) rfl (hs.ext TxR.stays hX) ?_; rw [htk.out])
        | fail) <;> (try simp only [Act.put, List.setIfInBounds_toArray, List.set_cons_zero, List.set_cons_succ]))
      go_loopw [18] (fun i wr => ∃ j : Nat, i = .int .i64 j ∧ j ≤ k ∧ Hid (∀ i, i < j → ∀ x, l[i]? = some x → x.id ≠ d.id) ∧ Fs wr g4 [.int .i64 d.id, .int .i64 d.fee] ∧ Ext W wr) (fun i _ => k - (intOf i).toNat)
      case atStart => exact ⟨0, rfl, Nat.zero_le _, fun i h => by omega, f4, hX⟩
      case round =>
        clear f4 hX
        obtain ⟨j, rfl, hj, hm, f4, hX⟩ := hrel
        by_cases hjlt : j < k
        · have t2 : decide (j < k) = true := by simpa using hjlt
          obtain ⟨d2, hd2⟩ : ∃ d2, (l.take k)[j]'(by simp; omega) = d2 := ⟨_, rfl⟩
          have hdj := hide_ (show l[j]? = some d2 from by rw [← hd2, List.getElem_take, List.getElem?_eq_getElem])
          have hlj := hide_ hd2
          clear hd2
          cases hc : (d.id == d2.id)
          · have hm2 := hide_ (show ∀ i, i < j + 1 → ∀ x, l[i]? = some x → x.id ≠ d.id from fun i hi x hx => by
              by_cases hij : i < j
              · exact hm.out i hij x hx
              · obtain rfl : i = j := by omega
                rw [hdj.out] at hx; cases hx
                rw [beq_eq_false_iff_ne] at hc
                exact fun e => hc e.symm)
            clear hm
            go_wp2_with ((first
              | (refine w_ridx0 Try.elTx _ _ j TxR.stays rfl rfl (v := vs) rfl rfl hs hX (by rw [htk.out]; exact hjlt) ?_; rintro p row hrow hrl ⟨rfl, hraw⟩; rw [hlj.out] at hrow)
              | (refine w_pload Try.stTx _ rfl rfl rfl (hrow.ext hX) rfl ?_)
              | (refine w_alloc Try.stTx rfl rfl ?_; intro g6 w6 hg6 hx6 f6; have n46 : ¬ g4 = g6 := (by have := f4.lt; omega); replace f4 := f4.ext hx6)
              | (refine w_astore Try.stTx (us := [.int .i64 d2.id, .int .i64 d2.fee]) _ _ rfl rfl rfl rfl rfl f6 rfl rfl d2.one ?_; intro w7 hm7 f7; replace f6 := f7; have hx := hm7.after hx6 (fun i e => e ▸ hg6); replace f4 := f4.mod hm7 n46; replace hX := hX.trans hx; clear f7 hm7 hx6 hg6 hx hrow hrl hraw)
              | (refine w_field Try.stTx _ _ _ rfl rfl rfl (by omega) ?_)
              | (refine w_fload _ rfl rfl rfl f4 rfl (agg_of (by kernel_rfl)) ?_)
              | (refine w_fload _ rfl rfl rfl f6 rfl (agg_of (by kernel_rfl)) ?_)
              | fail) <;> (try simp only [Act.put, List.setIfInBounds_toArray, List.set_cons_zero, List.set_cons_succ]))
            go_roundw
            case rel => exact ⟨j + 1, by go_num, by omega, hm2, f4, hX⟩
            case measure => simp [intOf]; omega
          · have hy := hide_ (show twice l = true from twice_yes hjlt hdj.out hdk.out (by rw [beq_iff_eq] at hc; exact hc.symm))
            clear hm
            go_wp2_with ((first
              | (refine w_ridx0 Try.elTx _ _ j TxR.stays rfl rfl (v := vs) rfl rfl hs hX (by rw [htk.out]; exact hjlt) ?_; rintro p row hrow hrl ⟨rfl, hraw⟩; rw [hlj.out] at hrow)
              | (refine w_pload Try.stTx _ rfl rfl rfl (hrow.ext hX) rfl ?_)
              | (refine w_alloc Try.stTx rfl rfl ?_; intro g6 w6 hg6 hx6 f6; have n46 : ¬ g4 = g6 := (by have := f4.lt; omega); replace f4 := f4.ext hx6)
              | (refine w_astore Try.stTx (us := [.int .i64 d2.id, .int .i64 d2.fee]) _ _ rfl rfl rfl rfl rfl f6 rfl rfl d2.one ?_; intro w7 hm7 f7; replace f6 := f7; have hx := hm7.after hx6 (fun i e => e ▸ hg6); replace f4 := f4.mod hm7 n46; replace hX := hX.trans hx; clear f7 hm7 hx6 hg6 hx hrow hrl hraw)
              | (refine w_field Try.stTx _ _ _ rfl rfl rfl (by omega) ?_)
              | (refine w_fload _ rfl rfl rfl f4 rfl (agg_of (by kernel_rfl)) ?_)
              | (refine w_fload _ rfl rfl rfl f6 rfl (agg_of (by kernel_rfl)) ?_)
              | fail) <;> (try simp only [Act.put, List.setIfInBounds_toArray, List.set_cons_zero, List.set_cons_succ]))
            go_ret
            exact Keep.intro ⟨by rw [hy.out]; rfl, hX⟩
        · have t2 : decide (j < k) = false := by simpa using hjlt
          have hn2 := hide_ (show ∀ i j, i < j → j < k + 1 → ∀ x y, l[i]? = some x → l[j]? = some y → x.id ≠ y.id from fun i j' hij hj' x y hx hy => by
            by_cases hjk : j' < k
            · exact hn.out i j' hij hjk x y hx hy
            · obtain rfl : j' = k := by omega
              rw [hdk.out] at hy; cases hy
              exact hm.out i (by omega) x hx)
          clear hm hn hjlt
          go_wp2
          go_roundw
          case rel => exact ⟨k + 1, by go_num, by omega, hn2, hX⟩
          case measure => simp [intOf]; omega
    · have t1 : decide (k < l.length) = false := by simpa using hlt
      have hno := hide_ (show twice l = false from twice_no fun i j hij hj => hn.out i j hij (by omega))
      clear hn
      go_wp2
      go_ret
      exact Keep.intro ⟨by rw [hno.out]; rfl, hX⟩
end Go.Proofs.Ytabbgnlabiakoaa
