/- The contracts of the document's List and Same (transactions). -/
import Derived.Test.YtabbgnlabiakoaaTx5
namespace Go.Proofs.Ytabbgnlabiakoaa
open Go.RowKit

theorem lsNums_len (l : List TxD) : (lsNums l).length = 1 + 2 * l.length := by simp [lsNums, txNums_len]; omega

set_option maxRecDepth 100000 in
set_option maxHeartbeats 1600000 in
theorem refTList_any {v : Value} {l : List TxD} {W : World} (hl : Recs 2 TxR W v l) :
    Calls Try.prog 19 #[v] W fun e w' => ∃ v', e = .returned (.tuple #[v', .int .i64 (tlE l : Nat)]) ∧ OwnB W.heap.size w' v' (tlB l) ∧ Ext W w' := by
  refine calls_keep ?_
  have No : ¬ LsOk l → Hid (∀ e w', e = .returned (.tuple #[.slice none 0 0, .int .i64 61]) → Ext W w' → Keep (fun e w' => ∃ v', e = .returned (.tuple #[v', .int .i64 (tlE l : Nat)]) ∧ OwnB W.heap.size w' v' (tlB l) ∧ Ext W w') e w') := fun h => hide_ (fun e w' he hx => Keep.intro ⟨.slice none 0 0, by rw [he, tlE, if_neg h]; rfl, by rw [tlB, if_neg h]; exact OwnB.nil _ _, hx⟩)
  have hX := Ext.refl W
  by_cases hbig : 3 < l.length
  · have t1 : decide ((3 : Int) < (l.length : Int)) = true := by simp; omega
    replace No := No fun h => by have := h.len; omega
    clear hbig
    go_enter Try.func19, Try.ntmps19
    go_wp2_with ((first
      | (refine w_rlen Try.elTx _ rfl rfl (v := v) rfl (hl.ext TxR.stays hX) ?_)
      | fail) <;> (try simp only [Act.put, List.setIfInBounds_toArray, List.set_cons_zero, List.set_cons_succ]))
    go_ret2
    exact No.out _ _ rfl hX
  have t1 : decide ((3 : Int) < (l.length : Int)) = false := by simp; omega
  have hl3 : l.length ≤ 3 := by omega
  clear hbig
  go_enter Try.func19, Try.ntmps19
  go_wp2_with ((first
    | (refine w_rlen Try.elTx _ rfl rfl (v := v) rfl (hl.ext TxR.stays hX) ?_)
    | (refine w_new Try.elI (i64s [(l.length : Int)]) rfl rfl rfl (i64s_cells _) rfl (by omega) ?_; intro v2 w3 hx3 o2; replace o2 := OwnI.mono (show OwnI _ w3 v2 [(l.length : Int)] from o2) hX.size; replace hX := hX.trans hx3; clear hx3)
    | fail) <;> (try simp only [Act.put, List.setIfInBounds_toArray, List.set_cons_zero, List.set_cons_succ]))
  go_loopw [4, 17] (fun vo i wr => ∃ k : Nat, i = .int .i64 k ∧ k ≤ l.length ∧ Hid ((∀ t ∈ l.take k, t.Right) ∧ ∀ i j, i < j → j < k → ∀ x y, l[i]? = some x → l[j]? = some y → x.id ≠ y.id) ∧ OwnI W.heap.size wr vo ((l.length : Int) :: txNums (l.take k)) ∧ Ext W wr) (fun _ i _ => l.length - (intOf i).toNat)
  case atStart => exact ⟨0, rfl, Nat.zero_le _, hide_ ⟨by simp, fun i j _ h => by omega⟩, o2, hX⟩
  case round =>
    clear o2 hX
    obtain ⟨k, rfl, hk, hall, o2, hX⟩ := hrel
    by_cases hge : l.length ≤ k
    · obtain rfl : k = l.length := by omega
      have t2 : decide (l.length < l.length) = false := by simp
      rw [List.take_length] at hall o2
      have hok := lsOk_of hl3 (twice_no fun i j hij hj => hall.out.2 i j hij hj) hall.out.1
      have e1 := hide_ (show tlE l = 0 from if_pos hok)
      have e2 := hide_ (show tlB l = nuL ((l.length : Int) :: txNums l) from if_pos hok)
      have hrd := hide_ (show Rdb ((l.length : Int) :: txNums l) from hok.rdb)
      have hlen := hide_ (show ((l.length : Int) :: txNums l).length ≤ 64 from by have := lsNums_len l; unfold lsNums at this; omega)
      clear hge hok
      go_wp2_with (first
        | (go_at_call 26; refine (refNums_yes hrd.out hlen.out o2.ints).mono ?_; rintro e w4 ⟨v3, rfl, o3, hx4⟩; replace o3 := o3.mono hX.size; replace hX := hX.trans hx4; clear o2 hx4)
        | fail)
      go_ret2
      exact Keep.intro ⟨_, by rw [e1.out]; rfl, by rw [e2.out]; exact o3, hX⟩
    have hlt : k < l.length := by omega
    have t2 : decide (k < l.length) = true := by simpa using hlt
    obtain ⟨d, hd⟩ : ∃ d, l[k] = d := ⟨_, rfl⟩
    have hdk := hide_ (show l[k]? = some d from by rw [List.getElem?_eq_getElem hlt, hd])
    have hlk := hide_ hd
    have hdm : d ∈ l := hd ▸ List.getElem_mem hlt
    have htk := hide_ (show (l.take k).length = k from by simp; omega)
    clear hge hd
    by_cases hdr : d.Right
    rotate_left
    · replace No := No fun h => hdr (h.right d hdm)
      have hdec := hide_ (decide_eq_false hdr)
      clear hall hdm hdr
      go_wp2_with ((first
        | (refine w_ridx0 Try.elTx _ _ k TxR.stays rfl rfl (v := v) rfl rfl hl hX hlt ?_; rintro p row hrow hrl ⟨rfl, hraw⟩; rw [hlk.out] at hrow)
        | (refine w_pload Try.stTx _ rfl rfl rfl (hrow.ext hX) rfl ?_)
        | (refine w_alloc Try.stTx rfl rfl ?_; intro g6 w4 hg6 hx4 f6)
        | (refine w_astore Try.stTx (us := [.int .i64 d.id, .int .i64 d.fee]) _ _ rfl rfl rfl rfl rfl f6 rfl rfl d.one ?_; intro w5 hm5 f5; replace f6 := f5; have hx := hm5.after hx4 (fun i e => e ▸ hg6); replace o2 := o2.ext hx; replace hX := hX.trans hx; clear f5 hm5 hx4 hg6 hx hrow hrl hraw)
        | (refine w_aload Try.stTx _ rfl rfl rfl f6 rfl ?_)
        | (go_at_call 15; refine (refRight_any d _).mono ?_; rintro e w7 ⟨rfl, hx7⟩; rw [hdec.out]; replace f6 := f6.ext hx7; replace o2 := o2.ext hx7; replace hX := hX.trans hx7; clear hx7)
        | fail) <;> (try simp only [Act.put, List.setIfInBounds_toArray, List.set_cons_zero, List.set_cons_succ]))
      go_ret2
      exact No.out _ _ rfl hX
    have hdec := hide_ (decide_eq_true hdr)
    have hbig := hide_ (show (((l.length : Int) :: txNums (l.take k)).length + d.nums.length) * 8 ≤ 140737488355328 from by
      have := txNums_len (l.take k)
      rw [htk.out] at this
      simp [TxD.nums]; omega)
    clear hdm
    replace hdr := hide_ hdr
    go_wp2_with ((first
      | (refine w_ridx0 Try.elTx _ _ k TxR.stays rfl rfl (v := v) rfl rfl hl hX hlt ?_; rintro p row hrow hrl ⟨rfl, hraw⟩; rw [hlk.out] at hrow)
      | (refine w_pload Try.stTx _ rfl rfl rfl (hrow.ext hX) rfl ?_)
      | (refine w_alloc Try.stTx rfl rfl ?_; intro g6 w4 hg6 hx4 f6)
      | (refine w_astore Try.stTx (us := [.int .i64 d.id, .int .i64 d.fee]) _ _ rfl rfl rfl rfl rfl f6 rfl rfl d.one ?_; intro w5 hm5 f5; replace f6 := f5; have hx := hm5.after hx4 (fun i e => e ▸ hg6); replace o2 := o2.ext hx; replace hX := hX.trans hx; clear f5 hm5 hx4 hg6 hx hrow hrl hraw)
      | (refine w_aload Try.stTx _ rfl rfl rfl f6 rfl ?_)
      | (go_at_call 15; refine (refRight_any d _).mono ?_; rintro e w7 ⟨rfl, hx7⟩; rw [hdec.out]; replace f6 := f6.ext hx7; replace o2 := o2.ext hx7; replace hX := hX.trans hx7; clear hx7)
      | (refine w_nto0 Try.elTx _ _ k rfl rfl (v := v) rfl rfl hl (by omega) ?_; intro vs hs)
      | (refine w_rlen Try.elTx _ rfl rfl (v := vs) rfl (hs.ext TxR.stays hX) ?_; rw [htk.out])
      | fail) <;> (try simp only [Act.put, List.setIfInBounds_toArray, List.set_cons_zero, List.set_cons_succ]))
    go_loopw [29] (fun i wr => ∃ j : Nat, i = .int .i64 j ∧ j ≤ k ∧ Hid (∀ i, i < j → ∀ x, l[i]? = some x → x.id ≠ d.id) ∧ Fs wr g6 [.int .i64 d.id, .int .i64 d.fee] ∧ OwnI W.heap.size wr u4 ((l.length : Int) :: txNums (l.take k)) ∧ Ext W wr) (fun i _ => k - (intOf i).toNat)
    case atStart => exact ⟨0, rfl, Nat.zero_le _, fun i h => by omega, f6, o2, hX⟩
    case round =>
      clear f6 hX o2
      obtain ⟨j, rfl, hj, hm, f6, o2, hX⟩ := hrel
      by_cases hjlt : j < k
      · have t3 : decide (j < k) = true := by simpa using hjlt
        obtain ⟨d2, hd2⟩ : ∃ d2, (l.take k)[j]'(by simp; omega) = d2 := ⟨_, rfl⟩
        have hdj := hide_ (show l[j]? = some d2 from by rw [← hd2, List.getElem_take, List.getElem?_eq_getElem])
        have hlj := hide_ hd2
        clear hd2
        cases hc : (d2.id == d.id)
        · have hm2 := hide_ (show ∀ i, i < j + 1 → ∀ x, l[i]? = some x → x.id ≠ d.id from fun i hi x hx => by
            by_cases hij : i < j
            · exact hm.out i hij x hx
            · obtain rfl : i = j := by omega
              rw [hdj.out] at hx; cases hx
              rw [beq_eq_false_iff_ne] at hc
              exact hc)
          clear hm
          go_wp2_with ((first
            | (refine w_ridx0 Try.elTx _ _ j TxR.stays rfl rfl (v := vs) rfl rfl hs hX (by rw [htk.out]; exact hjlt) ?_; rintro p row hrow hrl ⟨rfl, hraw⟩; rw [hlj.out] at hrow)
            | (refine w_pload Try.stTx _ rfl rfl rfl (hrow.ext hX) rfl ?_)
            | (refine w_alloc Try.stTx rfl rfl ?_; intro g8 w8 hg8 hx8 f8; have n68 : ¬ g6 = g8 := (by have := f6.lt; omega); replace f6 := f6.ext hx8)
            | (refine w_astore Try.stTx (us := [.int .i64 d2.id, .int .i64 d2.fee]) _ _ rfl rfl rfl rfl rfl f8 rfl rfl d2.one ?_; intro w9 hm9 f9; replace f8 := f9; have hx := hm9.after hx8 (fun i e => e ▸ hg8); replace f6 := f6.mod hm9 n68; replace o2 := o2.ext hx; replace hX := hX.trans hx; clear f9 hm9 hx8 hg8 hx hrow hrl hraw)
            | (refine w_field Try.stTx _ _ _ rfl rfl rfl (by omega) ?_)
            | (refine w_fload _ rfl rfl rfl f6 rfl (agg_of (by kernel_rfl)) ?_)
            | (refine w_fload _ rfl rfl rfl f8 rfl (agg_of (by kernel_rfl)) ?_)
            | fail) <;> (try simp only [Act.put, List.setIfInBounds_toArray, List.set_cons_zero, List.set_cons_succ]))
          go_roundw
          case rel => exact ⟨j + 1, by go_num, by omega, hm2, f6, o2, hX⟩
          case measure => simp [intOf]; omega
        · replace No := No fun h => by
            have h1 := twice_yes hjlt hdj.out hdk.out (by rw [beq_iff_eq] at hc; exact hc)
            rw [twice_false.2 h.ids] at h1; cases h1
          clear hm
          go_wp2_with ((first
            | (refine w_ridx0 Try.elTx _ _ j TxR.stays rfl rfl (v := vs) rfl rfl hs hX (by rw [htk.out]; exact hjlt) ?_; rintro p row hrow hrl ⟨rfl, hraw⟩; rw [hlj.out] at hrow)
            | (refine w_pload Try.stTx _ rfl rfl rfl (hrow.ext hX) rfl ?_)
            | (refine w_alloc Try.stTx rfl rfl ?_; intro g8 w8 hg8 hx8 f8; have n68 : ¬ g6 = g8 := (by have := f6.lt; omega); replace f6 := f6.ext hx8)
            | (refine w_astore Try.stTx (us := [.int .i64 d2.id, .int .i64 d2.fee]) _ _ rfl rfl rfl rfl rfl f8 rfl rfl d2.one ?_; intro w9 hm9 f9; replace f8 := f9; have hx := hm9.after hx8 (fun i e => e ▸ hg8); replace f6 := f6.mod hm9 n68; replace o2 := o2.ext hx; replace hX := hX.trans hx; clear f9 hm9 hx8 hg8 hx hrow hrl hraw)
            | (refine w_field Try.stTx _ _ _ rfl rfl rfl (by omega) ?_)
            | (refine w_fload _ rfl rfl rfl f6 rfl (agg_of (by kernel_rfl)) ?_)
            | (refine w_fload _ rfl rfl rfl f8 rfl (agg_of (by kernel_rfl)) ?_)
            | fail) <;> (try simp only [Act.put, List.setIfInBounds_toArray, List.set_cons_zero, List.set_cons_succ]))
          go_ret2
          exact No.out _ _ rfl hX
      · have t3 : decide (j < k) = false := by simpa using hjlt
        have htk1 : l.take (k + 1) = l.take k ++ [d] := by rw [List.take_succ_eq_append_getElem hlt, hlk.out]
        have hall2 := hide_ (show (∀ t ∈ l.take (k + 1), t.Right) ∧ ∀ i j, i < j → j < k + 1 → ∀ x y, l[i]? = some x → l[j]? = some y → x.id ≠ y.id from ⟨fun t ht => by
            rw [htk1] at ht
            rcases List.mem_append.1 ht with ht | ht
            · exact hall.out.1 t ht
            · rw [List.mem_singleton] at ht; subst ht; exact hdr.out, fun i j' hij hj' x y hx hy => by
            by_cases hjk : j' < k
            · exact hall.out.2 i j' hij hjk x y hx hy
            · obtain rfl : j' = k := by omega
              rw [hdk.out] at hy; cases hy
              exact hm.out i (by omega) x hx⟩)
        have hcat := hide_ (show ((l.length : Int) :: txNums (l.take k)) ++ d.nums = (l.length : Int) :: txNums (l.take (k + 1)) from by
          rw [htk1, txNums_snoc]; rfl)
        clear hm hall hjlt htk1
        go_wp2_with ((first
          | (refine w_field Try.stTx _ _ _ rfl rfl rfl (by omega) ?_)
          | (refine w_fload _ rfl rfl rfl f6 rfl (agg_of (by kernel_rfl)) ?_)
          | (refine w_new Try.elI (i64s d.nums) rfl rfl rfl (i64s_cells _) rfl (by omega) ?_; intro v3 w3 hx3 o3; have i3 : Ints w3 v3 d.nums := OwnI.ints (show OwnI _ w3 v3 d.nums from o3); replace o2 := o2.ext hx3; replace hX := hX.trans hx3; clear hx3 o3 f6)
          | (refine appi _ _ rfl rfl rfl rfl o2 i3 hbig.out hX.size ?_; intro v9 w9 o9 hb9 hg9 hh9; replace hX := hX.trans' hb9; replace o2 := o9; clear i3 hb9 hg9 o9 hh9)
          | fail) <;> (try simp only [Act.put, List.setIfInBounds_toArray, List.set_cons_zero, List.set_cons_succ]))
        rw [hcat.out] at o2
        go_roundw
        case rel => exact ⟨k + 1, by go_num, by omega, hall2, o2, hX⟩
        case measure => simp [intOf]; omega

/-! ### Two lists of transactions compared -/
theorem rtxne {o : Oper} {ρ : Operand → Value} {w : World} (x y : Operand) {t u : TxD} {b : Bool} (ho : o.op = .binOp .neq 23 x y 23) (hx : (Sp.recv TxR TxR.stays t).p (ρ x) w) (hy : (Sp.recv TxR TxR.stays u).p (ρ y) w) (hb : (!decide (t = u)) = b) :
    ∃ v', Runs Try.prog o ρ w v' ∧ (Sp.val (.bool b)).p v' w := by
  obtain ⟨row, h1, rfl, _⟩ := hx
  obtain ⟨row', h2, rfl, _⟩ := hy
  subst hb
  exact ⟨_, runs_txne x y t u ho h1 h2, rfl⟩

set_option maxRecDepth 100000 in
set_option maxHeartbeats 1600000 in
theorem Same_any {W : World} {a b : Value} {l m : List TxD} (ha0 : Recs 2 TxR W a l) (hb0 : Recs 2 TxR W b m) :
    Calls Try.prog 23 #[a, b] W fun e w' => e = .returned (.bool (decide (l = m))) ∧ Ext W w' := by
  refine calls_keep ?_
  have hmax : l.length ≤ 9223372036854775807 := by have := ha0.len_le; unfold maxLen at this; omega
  have ha := hide_ ha0
  have hb := hide_ hb0
  clear ha0 hb0
  by_cases hlm : l.length = m.length
  rotate_left
  · have t1 : ((l.length : Int) == (m.length : Int)) = false := by rw [beq_eq_false_iff_ne]; omega
    have hno := hide_ (show decide (l = m) = false from decide_eq_false fun h => hlm (by rw [h]))
    clear hlm
    go_enter Try.func23, Try.ntmps23
    go_wp2_with ((first
      | (refine w_rlen Try.elTx _ rfl rfl (v := a) rfl ha.out ?_)
      | (refine w_rlen Try.elTx _ rfl rfl (v := b) rfl hb.out ?_)
      | fail) <;> (try simp only [Act.put, List.setIfInBounds_toArray, List.set_cons_zero, List.set_cons_succ]))
    go_ret
    exact Keep.intro ⟨by rw [hno.out]; rfl, Ext.refl _⟩
  have t1 : ((l.length : Int) == (m.length : Int)) = true := by rw [beq_iff_eq]; omega
  replace hlm := hide_ hlm
  go_enter Try.func23, Try.ntmps23
  go_wp2_with ((first
    | (refine w_rlen Try.elTx _ rfl rfl (v := a) rfl ha.out ?_)
    | (refine w_rlen Try.elTx _ rfl rfl (v := b) rfl hb.out ?_)
    | fail) <;> (try simp only [Act.put, List.setIfInBounds_toArray, List.set_cons_zero, List.set_cons_succ]))
  go_loopw [13] (fun i wr => ∃ k : Nat, i = .int .i64 k ∧ k ≤ l.length ∧ Hid (l.take k = m.take k) ∧ Ext W wr) (fun i _ => l.length - (intOf i).toNat)
  case atStart => exact ⟨0, rfl, Nat.zero_le _, hide_ rfl, Ext.refl _⟩
  case round =>
    obtain ⟨k, rfl, hk, heq, hX⟩ := hrel
    by_cases hge : l.length ≤ k
    · obtain rfl : k = l.length := by omega
      have t2 : decide (l.length < l.length) = false := by simp
      have hyes := hide_ (show decide (l = m) = true from decide_eq_true (by have := heq.out; rw [List.take_length] at this; rw [hlm.out, List.take_length] at this; exact this))
      clear hge heq
      go_wp2
      go_ret
      exact Keep.intro ⟨by rw [hyes.out]; rfl, hX⟩
    have hlt : k < l.length := by omega
    have t2 : decide (k < l.length) = true := by simpa using hlt
    obtain ⟨d, hd0⟩ : ∃ d, l[k]? = some d := ⟨_, List.getElem?_eq_getElem hlt⟩
    obtain ⟨d2, hd20⟩ : ∃ d2, m[k]? = some d2 := ⟨_, List.getElem?_eq_getElem (by have := hlm.out; omega)⟩
    have hd := hide_ hd0
    have hd2 := hide_ hd20
    clear hge hd0 hd20
    by_cases hdd : d = d2
    · have hc := hide_ (show (!decide (d = d2)) = false from by simp [hdd])
      have heq2 := hide_ (show l.take (k + 1) = m.take (k + 1) from by rw [List.take_add_one, List.take_add_one, heq.out, hd.out, hd2.out, hdd])
      clear heq hdd
      go_wp2
      refine wp_region_phx (by kernel_rfl) ?_; intro wd hxd; have ha1 := ha.out.ext TxR.stays (hX.trans hxd); have hb1 := hb.out.ext TxR.stays (hX.trans hxd)
      refine Ph.rest 0 9 (by kernel_rfl) ?_
      refine LinL.step (s := (.val (a))) [(0, none)] rfl (by kernel_rfl) (op_out 0 (a) rfl (.inl rfl) rfl) ?_
      refine LinL.step (s := (.val (.int .i64 (k : Nat)))) [(5, none)] rfl (by kernel_rfl) (op_out 5 (.int .i64 (k : Nat)) rfl (.inl rfl) rfl) ?_
      refine LinL.step (s := (Sp.recp 2 TxR TxR.stays d)) [(16, some 1), (17, some 0)] rfl (by kernel_rfl) (op_runs rfl fun σ w' hx hg => rridx (ρ := σ.eval) (w := w') TxR.stays Try.elTx (.tmp 16) (.tmp 17) k rfl hg.1 hg.2.1 (ha1.ext TxR.stays hx) hd.out) ?_
      refine LinL.step (s := (Sp.recv TxR TxR.stays d)) [(18, some 0)] rfl (by kernel_rfl) (op_runs rfl fun σ w' hx hg => rrload (ρ := σ.eval) (w := w') TxR.stays Try.stTx (.tmp 18) rfl hg.1) ?_
      refine LinL.step (s := (.val (b))) [(1, none)] rfl (by kernel_rfl) (op_out 1 (b) rfl (.inl rfl) rfl) ?_
      refine LinL.step (s := (.val (.int .i64 (k : Nat)))) [(5, none)] rfl (by kernel_rfl) (op_out 5 (.int .i64 (k : Nat)) rfl (.inl rfl) rfl) ?_
      refine LinL.step (s := (Sp.recp 2 TxR TxR.stays d2)) [(20, some 1), (21, some 0)] rfl (by kernel_rfl) (op_runs rfl fun σ w' hx hg => rridx (ρ := σ.eval) (w := w') TxR.stays Try.elTx (.tmp 20) (.tmp 21) k rfl hg.1 hg.2.1 (hb1.ext TxR.stays hx) hd2.out) ?_
      refine LinL.step (s := (Sp.recv TxR TxR.stays d2)) [(22, some 0)] rfl (by kernel_rfl) (op_runs rfl fun σ w' hx hg => rrload (ρ := σ.eval) (w := w') TxR.stays Try.stTx (.tmp 22) rfl hg.1) ?_
      refine LinL.step (s := (.val (.bool false))) [(19, some 4), (23, some 0)] rfl (by kernel_rfl) (op_runs rfl fun σ w' hx hg => rtxne (ρ := σ.eval) (w := w') (.tmp 19) (.tmp 23) rfl hg.1 hg.2.1 hc.out) ?_
      intro wN hxN
      simp only [Fin', Sp.recp, Sp.recv, List.reverse_cons, List.reverse_nil, List.nil_append, List.cons_append, List.drop_zero, List.take_succ_cons, List.take_zero]
      intro q18 hq18 q19 hq19 q22 hq22 q23 hq23
      simp only [Act.put, List.setIfInBounds_toArray, List.set_cons_zero, List.set_cons_succ]
      replace hX := hX.trans (hxd.trans hxN)
      clear hxd hxN ha1 hb1 hq18 hq19 hq22 hq23
      go_wp2
      go_roundw
      case rel => exact ⟨k + 1, by go_num, by omega, heq2, hX⟩
      case measure => simp [intOf]; omega
    · have hc := hide_ (show (!decide (d = d2)) = true from by simp [hdd])
      have hno := hide_ (show decide (l = m) = false from decide_eq_false fun h => hdd (by subst h; have := hd.out.symm.trans hd2.out; injection this))
      clear heq hdd
      go_wp2
      refine wp_region_phx (by kernel_rfl) ?_; intro wd hxd; have ha1 := ha.out.ext TxR.stays (hX.trans hxd); have hb1 := hb.out.ext TxR.stays (hX.trans hxd)
      refine Ph.rest 0 9 (by kernel_rfl) ?_
      refine LinL.step (s := (.val (a))) [(0, none)] rfl (by kernel_rfl) (op_out 0 (a) rfl (.inl rfl) rfl) ?_
      refine LinL.step (s := (.val (.int .i64 (k : Nat)))) [(5, none)] rfl (by kernel_rfl) (op_out 5 (.int .i64 (k : Nat)) rfl (.inl rfl) rfl) ?_
      refine LinL.step (s := (Sp.recp 2 TxR TxR.stays d)) [(16, some 1), (17, some 0)] rfl (by kernel_rfl) (op_runs rfl fun σ w' hx hg => rridx (ρ := σ.eval) (w := w') TxR.stays Try.elTx (.tmp 16) (.tmp 17) k rfl hg.1 hg.2.1 (ha1.ext TxR.stays hx) hd.out) ?_
      refine LinL.step (s := (Sp.recv TxR TxR.stays d)) [(18, some 0)] rfl (by kernel_rfl) (op_runs rfl fun σ w' hx hg => rrload (ρ := σ.eval) (w := w') TxR.stays Try.stTx (.tmp 18) rfl hg.1) ?_
      refine LinL.step (s := (.val (b))) [(1, none)] rfl (by kernel_rfl) (op_out 1 (b) rfl (.inl rfl) rfl) ?_
      refine LinL.step (s := (.val (.int .i64 (k : Nat)))) [(5, none)] rfl (by kernel_rfl) (op_out 5 (.int .i64 (k : Nat)) rfl (.inl rfl) rfl) ?_
      refine LinL.step (s := (Sp.recp 2 TxR TxR.stays d2)) [(20, some 1), (21, some 0)] rfl (by kernel_rfl) (op_runs rfl fun σ w' hx hg => rridx (ρ := σ.eval) (w := w') TxR.stays Try.elTx (.tmp 20) (.tmp 21) k rfl hg.1 hg.2.1 (hb1.ext TxR.stays hx) hd2.out) ?_
      refine LinL.step (s := (Sp.recv TxR TxR.stays d2)) [(22, some 0)] rfl (by kernel_rfl) (op_runs rfl fun σ w' hx hg => rrload (ρ := σ.eval) (w := w') TxR.stays Try.stTx (.tmp 22) rfl hg.1) ?_
      refine LinL.step (s := (.val (.bool true))) [(19, some 4), (23, some 0)] rfl (by kernel_rfl) (op_runs rfl fun σ w' hx hg => rtxne (ρ := σ.eval) (w := w') (.tmp 19) (.tmp 23) rfl hg.1 hg.2.1 hc.out) ?_
      intro wN hxN
      simp only [Fin', Sp.recp, Sp.recv, List.reverse_cons, List.reverse_nil, List.nil_append, List.cons_append, List.drop_zero, List.take_succ_cons, List.take_zero]
      intro q18 hq18 q19 hq19 q22 hq22 q23 hq23
      simp only [Act.put, List.setIfInBounds_toArray, List.set_cons_zero, List.set_cons_succ]
      replace hX := hX.trans (hxd.trans hxN)
      go_wp2
      go_ret
      exact Keep.intro ⟨by rw [hno.out]; rfl, hX⟩
end Go.Proofs.Ytabbgnlabiakoaa
