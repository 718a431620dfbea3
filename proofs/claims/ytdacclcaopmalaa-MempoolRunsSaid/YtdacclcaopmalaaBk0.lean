/- The contracts of Right, Name, Slot, Miner of package block, and of the document's. -/
import Derived.Test.YtdacclcaopmalaaBRec
import Derived.Test.YtdacclcaopmalaaFB
namespace Go.Proofs.Ytdacclcaopmalaa
set_option maxRecDepth 100000
open Go.RowKit

def NumOk (s m v : Int) : Prop := (1 ≤ s ∧ s ≤ 4095) ∧ (0 ≤ m ∧ m ≤ 6) ∧ (0 ≤ v ∧ v ≤ 255)
instance (s m v : Int) : Decidable (NumOk s m v) := by unfold NumOk; infer_instance

set_option maxRecDepth 100000 in
set_option maxHeartbeats 800000 in
theorem numbers_any (s m v : Int) (w : World) : Calls Try.prog 85 #[.int .i64 s, .int .i64 m, .int .i64 v] w fun e w' => e = .returned (.bool (decide (NumOk s m v))) ∧ Ext w w' := by
  refine calls_keep ?_
  by_cases h1 : 1 ≤ s
  · have t1 : decide (1 ≤ s) = true := by simp; omega
    by_cases h2 : s ≤ 4095
    · have t2 : decide (s ≤ 4095) = true := by simp; omega
      by_cases h3 : 0 ≤ m
      · have t3 : decide (0 ≤ m) = true := by simp; omega
        by_cases h4 : m ≤ 6
        · have t4 : decide (m < 7) = true := by simp; omega
          by_cases h5 : 0 ≤ v
          · have t5 : decide (0 ≤ v) = true := by simp; omega
            by_cases h6 : v ≤ 255
            · have t6 : decide (v ≤ 255) = true := by simp; omega
              have hdec := hide_ (show decide (NumOk s m v) = true from decide_eq_true ⟨⟨h1, h2⟩, ⟨h3, h4⟩, ⟨h5, h6⟩⟩)
              clear h1 h2 h3 h4 h5 h6
              go_enter Try.func85, Try.ntmps85
              go_wp2
              go_ret
              exact Keep.intro ⟨by rw [hdec.out]; rfl, Ext.refl _⟩
            · have t6 : decide (v ≤ 255) = false := by simp; omega
              have hdec := hide_ (show decide (NumOk s m v) = false from decide_eq_false (fun h => h6 (by obtain ⟨⟨_, _⟩, ⟨_, _⟩, ⟨_, _⟩⟩ := h; assumption)))
              clear h1 h2 h3 h4 h5 h6
              go_enter Try.func85, Try.ntmps85
              go_wp2
              go_ret
              exact Keep.intro ⟨by rw [hdec.out]; rfl, Ext.refl _⟩
          · have t5 : decide (0 ≤ v) = false := by simp; omega
            have hdec := hide_ (show decide (NumOk s m v) = false from decide_eq_false (fun h => h5 (by obtain ⟨⟨_, _⟩, ⟨_, _⟩, ⟨_, _⟩⟩ := h; assumption)))
            clear h1 h2 h3 h4 h5
            go_enter Try.func85, Try.ntmps85
            go_wp2
            go_ret
            exact Keep.intro ⟨by rw [hdec.out]; rfl, Ext.refl _⟩
        · have t4 : decide (m < 7) = false := by simp; omega
          have hdec := hide_ (show decide (NumOk s m v) = false from decide_eq_false (fun h => h4 (by obtain ⟨⟨_, _⟩, ⟨_, _⟩, ⟨_, _⟩⟩ := h; assumption)))
          clear h1 h2 h3 h4
          go_enter Try.func85, Try.ntmps85
          go_wp2
          go_ret
          exact Keep.intro ⟨by rw [hdec.out]; rfl, Ext.refl _⟩
      · have t3 : decide (0 ≤ m) = false := by simp; omega
        have hdec := hide_ (show decide (NumOk s m v) = false from decide_eq_false (fun h => h3 (by obtain ⟨⟨_, _⟩, ⟨_, _⟩, ⟨_, _⟩⟩ := h; assumption)))
        clear h1 h2 h3
        go_enter Try.func85, Try.ntmps85
        go_wp2
        go_ret
        exact Keep.intro ⟨by rw [hdec.out]; rfl, Ext.refl _⟩
    · have t2 : decide (s ≤ 4095) = false := by simp; omega
      have hdec := hide_ (show decide (NumOk s m v) = false from decide_eq_false (fun h => h2 (by obtain ⟨⟨_, _⟩, ⟨_, _⟩, ⟨_, _⟩⟩ := h; assumption)))
      clear h1 h2
      go_enter Try.func85, Try.ntmps85
      go_wp2
      go_ret
      exact Keep.intro ⟨by rw [hdec.out]; rfl, Ext.refl _⟩
  · have t1 : decide (1 ≤ s) = false := by simp; omega
    have hdec := hide_ (show decide (NumOk s m v) = false from decide_eq_false (fun h => h1 (by obtain ⟨⟨_, _⟩, ⟨_, _⟩, ⟨_, _⟩⟩ := h; assumption)))
    clear h1
    go_enter Try.func85, Try.ntmps85
    go_wp2
    go_ret
    exact Keep.intro ⟨by rw [hdec.out]; rfl, Ext.refl _⟩

theorem wrap64_id {n : Int} (h : -9223372036854775808 ≤ n ∧ n ≤ 9223372036854775807) : wrap64 n = n := by unfold wrap64; omega
theorem tdiv_neg_le {n : Int} (h : n < 0) : n.tdiv 65536 ≤ 0 := by
  have := Int.tdiv_nonneg (a := -n) (b := 65536) (by omega) (by omega)
  rw [Int.neg_tdiv] at this; omega
theorem split_ok {n : Int} (hn : NmOk n) : n.tdiv 65536 = n / 65536 ∧ wrap64 ((n.tmod 65536).tdiv 256) = n / 256 % 256 ∧ 0 ≤ n.tmod 256 ∧ n.tmod 256 ≤ 255 := by
  have h0 := hn.pos
  rw [Int.tdiv_eq_ediv_of_nonneg h0, Int.tmod_eq_emod_of_nonneg h0, Int.tdiv_eq_ediv_of_nonneg (by omega), Int.tmod_eq_emod_of_nonneg h0, wrap64_id (by omega)]
  omega
theorem split_no {n : Int} (hn : ¬ NmOk n) : ¬ NumOk (n.tdiv 65536) (wrap64 ((n.tmod 65536).tdiv 256)) (n.tmod 256) := fun h => hn (by
  obtain ⟨⟨h1, h2⟩, ⟨h3, h4⟩, _⟩ := h
  by_cases h0 : 0 ≤ n
  · rw [Int.tdiv_eq_ediv_of_nonneg h0] at h1 h2
    rw [Int.tmod_eq_emod_of_nonneg h0, Int.tdiv_eq_ediv_of_nonneg (by omega), wrap64_id (by omega)] at h3 h4
    exact ⟨h0, h1, h2, by omega⟩
  · have := tdiv_neg_le (n := n) (by omega); omega)

set_option maxRecDepth 100000 in
set_option maxHeartbeats 800000 in
theorem split_any (n : Int) (h0 : -9223372036854775808 ≤ n) (h1 : n ≤ 9223372036854775807) (w : World) : Calls Try.prog 114 #[.int .i64 n] w fun e w' => e = .returned (.tuple #[.int .i64 (nmS n), .int .i64 (nmM n)]) ∧ Ext w w' := by
  refine calls_keep ?_
  by_cases hn : NmOk n
  · have hdec := hide_ (show decide (NumOk (n.tdiv 65536) (wrap64 ((n.tmod 65536).tdiv 256)) (n.tmod 256)) = true from decide_eq_true (by
      obtain ⟨e1, e2, e3, e4⟩ := split_ok hn
      have := hn.m; have := hn.s1; have := hn.s2
      rw [e1, e2]; exact ⟨by omega, by omega, e3, e4⟩))
    have e1 := hide_ (show nmS n = n.tdiv 65536 from by rw [nmS, if_pos hn, (split_ok hn).1])
    have e2 := hide_ (show nmM n = wrap64 ((n.tmod 65536).tdiv 256) from by rw [nmM, if_pos hn, (split_ok hn).2.1])
    clear hn
    go_enter Try.func114, Try.ntmps114
    go_wp2_with (first
      | (go_at_call 85; refine (numbers_any _ _ _ _).mono ?_; rintro e w2 ⟨rfl, hX⟩; rw [hdec.out])
      | fail)
    go_ret2
    exact Keep.intro ⟨by rw [e1.out, e2.out]; rfl, hX⟩
  · have hdec := hide_ (decide_eq_false (split_no hn))
    have e1 := hide_ (show nmS n = 0 from by rw [nmS, if_neg hn])
    have e2 := hide_ (show nmM n = 0 from by rw [nmM, if_neg hn])
    clear hn
    go_enter Try.func114, Try.ntmps114
    go_wp2_with (first
      | (go_at_call 85; refine (numbers_any _ _ _ _).mono ?_; rintro e w2 ⟨rfl, hX⟩; rw [hdec.out])
      | fail)
    go_ret2
    exact Keep.intro ⟨by rw [e1.out, e2.out]; rfl, hX⟩

set_option maxRecDepth 100000 in
set_option maxHeartbeats 800000 in
theorem Slot_any (n : Int) (h0 : -9223372036854775808 ≤ n) (h1 : n ≤ 9223372036854775807) (w : World) : Calls Try.prog 103 #[.int .i64 n] w fun e w' => e = .returned (.int .i64 (nmS n)) ∧ Ext w w' := by
  refine calls_keep ?_
  go_enter Try.func103, Try.ntmps103
  go_wp2_with (first
    | (go_at_call 114; refine (split_any n h0 h1 _).mono ?_; rintro e w2 ⟨rfl, hX⟩)
    | fail)
  go_ret
  exact Keep.intro ⟨rfl, hX⟩

def ParOk (p s : Int) : Prop := p = 0 ∨ (NmOk p ∧ p / 65536 < s)
instance (p s : Int) : Decidable (ParOk p s) := by unfold ParOk; infer_instance
theorem BlkD.right_iff (b : BlkD) : b.Right ↔ NumOk b.slot b.miner b.var ∧ ParOk b.parent b.slot ∧ LsOk b.txs := ⟨fun h => ⟨⟨h.s, h.m, h.v⟩, h.p, h.t⟩, fun ⟨⟨h1, h2, h3⟩, h4, h5⟩ => ⟨h1, h2, h3, h4, h5⟩⟩
theorem nmS_pos {n : Int} : 1 ≤ nmS n ↔ NmOk n := by
  unfold nmS
  constructor
  · intro h
    by_cases hn : NmOk n
    · exact hn
    · rw [if_neg hn] at h; omega
  · intro h; rw [if_pos h]; exact h.s1
theorem parOk_iff {p s : Int} (h : p ≠ 0) : ParOk p s ↔ 1 ≤ nmS p ∧ nmS p < s := by
  rw [nmS_pos]
  constructor
  · rintro (h1 | ⟨h1, h2⟩)
    · exact absurd h1 h
    · exact ⟨h1, by rw [nmS, if_pos h1]; exact h2⟩
  · rintro ⟨h1, h2⟩
    rw [nmS, if_pos h1] at h2
    exact .inr ⟨h1, h2⟩
def I64 (n : Int) : Prop := -9223372036854775808 ≤ n ∧ n ≤ 9223372036854775807

set_option maxRecDepth 100000 in
set_option maxHeartbeats 800000 in
theorem parent_any {W : World} {u : Value} {b : BlkD} (_hu : Recs 2 TxR W u b.txs) (hp : I64 b.parent) (w : World) : Calls Try.prog 86 #[.agg #[.int .i64 b.slot, .int .i64 b.miner, .int .i64 b.var, .int .i64 b.parent, u]] w fun e w' => e = .returned (.bool (decide (ParOk b.parent b.slot))) ∧ Ext w w' := by
  refine calls_keep ?_
  obtain ⟨n, hns'⟩ : ∃ n, nmS b.parent = n := ⟨_, rfl⟩
  have hns := hide_ hns'
  cases h0 : (b.parent == 0)
  rotate_left
  · have hdec := hide_ (show decide (ParOk b.parent b.slot) = true from decide_eq_true (.inl (by simpa using h0)))
    go_enter Try.func86, Try.ntmps86
    go_wp2_with ((first
      | ((with_reducible refine at_box ?_); refine w_box _ [.int .i64 b.slot, .int .i64 b.miner, .int .i64 b.var, .int .i64 b.parent, u] rfl rfl rfl rfl ?_; intro g1 w1 hg1 hX f1)
      | (go_at_call 103; refine (Slot_any b.parent hp.1 hp.2 _).mono ?_; rintro e w2 ⟨rfl, hx⟩; rw [hns.out]; replace f1 := f1.ext hx; replace hX := hX.trans hx; clear hx)
      | ((with_reducible refine at_field ?_); (try refine w_yes _ _ _ rfl rfl rfl ?_); refine w_field Try.stBlk _ _ _ rfl rfl rfl (by omega) ?_)
      | ((with_reducible refine at_load ?_); (try refine w_yes _ _ _ rfl rfl rfl ?_); refine w_fload _ rfl rfl rfl f1 rfl (agg_of (by kernel_rfl)) ?_)
      | fail) <;> (try simp only [Act.put, List.setIfInBounds_toArray, List.set_cons_zero, List.set_cons_succ]))
    go_ret
    exact Keep.intro ⟨by rw [hdec.out]; rfl, hX⟩
  have hiff := parOk_iff (p := b.parent) (s := b.slot) (by simpa using h0)
  rw [hns'] at hiff
  by_cases h1 : 1 ≤ n
  · have t1 : decide (1 ≤ n) = true := by simpa using h1
    by_cases h2 : n < b.slot
    · have t2 : decide (n < b.slot) = true := by simpa using h2
      have hdec := hide_ (show decide (ParOk b.parent b.slot) = true from decide_eq_true (hiff.2 ⟨h1, h2⟩))
      clear hiff h1 h2 hns'
      go_enter Try.func86, Try.ntmps86
      go_wp2_with ((first
        | ((with_reducible refine at_box ?_); refine w_box _ [.int .i64 b.slot, .int .i64 b.miner, .int .i64 b.var, .int .i64 b.parent, u] rfl rfl rfl rfl ?_; intro g1 w1 hg1 hX f1)
        | (go_at_call 103; refine (Slot_any b.parent hp.1 hp.2 _).mono ?_; rintro e w2 ⟨rfl, hx⟩; rw [hns.out]; replace f1 := f1.ext hx; replace hX := hX.trans hx; clear hx)
        | ((with_reducible refine at_field ?_); (try refine w_yes _ _ _ rfl rfl rfl ?_); refine w_field Try.stBlk _ _ _ rfl rfl rfl (by omega) ?_)
        | ((with_reducible refine at_load ?_); (try refine w_yes _ _ _ rfl rfl rfl ?_); refine w_fload _ rfl rfl rfl f1 rfl (agg_of (by kernel_rfl)) ?_)
        | fail) <;> (try simp only [Act.put, List.setIfInBounds_toArray, List.set_cons_zero, List.set_cons_succ]))
      go_ret
      exact Keep.intro ⟨by rw [hdec.out]; rfl, hX⟩
    · have t2 : decide (n < b.slot) = false := by simpa using h2
      have hdec := hide_ (show decide (ParOk b.parent b.slot) = false from decide_eq_false fun h => h2 (hiff.1 h).2)
      clear hiff h1 h2 hns'
      go_enter Try.func86, Try.ntmps86
      go_wp2_with ((first
        | ((with_reducible refine at_box ?_); refine w_box _ [.int .i64 b.slot, .int .i64 b.miner, .int .i64 b.var, .int .i64 b.parent, u] rfl rfl rfl rfl ?_; intro g1 w1 hg1 hX f1)
        | (go_at_call 103; refine (Slot_any b.parent hp.1 hp.2 _).mono ?_; rintro e w2 ⟨rfl, hx⟩; rw [hns.out]; replace f1 := f1.ext hx; replace hX := hX.trans hx; clear hx)
        | ((with_reducible refine at_field ?_); (try refine w_yes _ _ _ rfl rfl rfl ?_); refine w_field Try.stBlk _ _ _ rfl rfl rfl (by omega) ?_)
        | ((with_reducible refine at_load ?_); (try refine w_yes _ _ _ rfl rfl rfl ?_); refine w_fload _ rfl rfl rfl f1 rfl (agg_of (by kernel_rfl)) ?_)
        | fail) <;> (try simp only [Act.put, List.setIfInBounds_toArray, List.set_cons_zero, List.set_cons_succ]))
      go_ret
      exact Keep.intro ⟨by rw [hdec.out]; rfl, hX⟩
  · have t1 : decide (1 ≤ n) = false := by simpa using h1
    have hdec := hide_ (show decide (ParOk b.parent b.slot) = false from decide_eq_false fun h => h1 (hiff.1 h).1)
    clear hiff h1 hns'
    go_enter Try.func86, Try.ntmps86
    go_wp2_with ((first
      | ((with_reducible refine at_box ?_); refine w_box _ [.int .i64 b.slot, .int .i64 b.miner, .int .i64 b.var, .int .i64 b.parent, u] rfl rfl rfl rfl ?_; intro g1 w1 hg1 hX f1)
      | (go_at_call 103; refine (Slot_any b.parent hp.1 hp.2 _).mono ?_; rintro e w2 ⟨rfl, hx⟩; rw [hns.out]; replace f1 := f1.ext hx; replace hX := hX.trans hx; clear hx)
      | ((with_reducible refine at_field ?_); (try refine w_yes _ _ _ rfl rfl rfl ?_); refine w_field Try.stBlk _ _ _ rfl rfl rfl (by omega) ?_)
      | ((with_reducible refine at_load ?_); (try refine w_yes _ _ _ rfl rfl rfl ?_); refine w_fload _ rfl rfl rfl f1 rfl (agg_of (by kernel_rfl)) ?_)
      | fail) <;> (try simp only [Act.put, List.setIfInBounds_toArray, List.set_cons_zero, List.set_cons_succ]))
    go_ret
    exact Keep.intro ⟨by rw [hdec.out]; rfl, hX⟩

set_option maxRecDepth 100000 in
set_option maxHeartbeats 800000 in
theorem BRight_any {w : World} {u : Value} {b : BlkD} (hu0 : Recs 2 TxR w u b.txs) (hp : I64 b.parent) : Calls Try.prog 74 #[.agg #[.int .i64 b.slot, .int .i64 b.miner, .int .i64 b.var, .int .i64 b.parent, u]] w fun e w' => e = .returned (.bool (decide b.Right)) ∧ Ext w w' := by
  refine calls_keep ?_
  have hu := hide_ hu0
  replace hp := hide_ hp
  have hiff := b.right_iff
  by_cases h1 : NumOk b.slot b.miner b.var
  rotate_left
  · have hn := hide_ (decide_eq_false h1)
    have hdec := hide_ (show decide b.Right = false from decide_eq_false fun h => h1 (hiff.1 h).1)
    clear hiff h1
    go_enter Try.func74, Try.ntmps74
    go_wp2_with ((first
      | ((with_reducible refine at_box ?_); refine w_box _ [.int .i64 b.slot, .int .i64 b.miner, .int .i64 b.var, .int .i64 b.parent, u] rfl rfl rfl rfl ?_; intro g1 w1 hg1 hX f1)
      | (go_at_call 85; refine (numbers_any _ _ _ _).mono ?_; rintro e w2 ⟨rfl, hx⟩; rw [hn.out]; replace f1 := f1.ext hx; replace hX := hX.trans hx; clear hx)
      | ((with_reducible refine at_field ?_); (try refine w_yes _ _ _ rfl rfl rfl ?_); refine w_field Try.stBlk _ _ _ rfl rfl rfl (by omega) ?_)
      | ((with_reducible refine at_load ?_); (try refine w_yes _ _ _ rfl rfl rfl ?_); refine w_fload _ rfl rfl rfl f1 rfl (agg_of (by kernel_rfl)) ?_)
      | fail) <;> (try simp only [Act.put, List.setIfInBounds_toArray, List.set_cons_zero, List.set_cons_succ]))
    go_ret
    exact Keep.intro ⟨by rw [hdec.out]; rfl, hX⟩
  have hn := hide_ (decide_eq_true h1)
  by_cases h2 : ParOk b.parent b.slot
  rotate_left
  · have hpar := hide_ (decide_eq_false h2)
    have hdec := hide_ (show decide b.Right = false from decide_eq_false fun h => h2 (hiff.1 h).2.1)
    clear hiff h1 h2
    go_enter Try.func74, Try.ntmps74
    go_wp2_with ((first
      | ((with_reducible refine at_box ?_); refine w_box _ [.int .i64 b.slot, .int .i64 b.miner, .int .i64 b.var, .int .i64 b.parent, u] rfl rfl rfl rfl ?_; intro g1 w1 hg1 hX f1)
      | (go_at_call 85; refine (numbers_any _ _ _ _).mono ?_; rintro e w2 ⟨rfl, hx⟩; rw [hn.out]; replace f1 := f1.ext hx; replace hX := hX.trans hx; clear hx)
      | (go_at_call 86; refine (parent_any (b := b) hu0 (hp.out) _).mono ?_; rintro e w3 ⟨rfl, hx⟩; rw [hpar.out]; replace f1 := f1.ext hx; replace hX := hX.trans hx; clear hx)
      | ((with_reducible refine at_field ?_); (try refine w_yes _ _ _ rfl rfl rfl ?_); refine w_field Try.stBlk _ _ _ rfl rfl rfl (by omega) ?_)
      | ((with_reducible refine at_load ?_); (try refine w_yes _ _ _ rfl rfl rfl ?_); refine w_aload Try.stBlk _ rfl rfl rfl f1 rfl ?_)
      | ((with_reducible refine at_load ?_); (try refine w_yes _ _ _ rfl rfl rfl ?_); refine w_fload _ rfl rfl rfl f1 rfl (agg_of (by kernel_rfl)) ?_)
      | fail) <;> (try simp only [Act.put, List.setIfInBounds_toArray, List.set_cons_zero, List.set_cons_succ]))
    go_ret
    exact Keep.intro ⟨by rw [hdec.out]; rfl, hX⟩
  have hpar := hide_ (decide_eq_true h2)
  by_cases h3 : LsOk b.txs
  · have hle := hide_ (show tlE b.txs = 0 from if_pos h3)
    have hdec := hide_ (show decide b.Right = true from decide_eq_true (hiff.2 ⟨h1, h2, h3⟩))
    clear hiff h1 h2 h3
    go_enter Try.func74, Try.ntmps74
    go_wp2_with ((first
      | ((with_reducible refine at_box ?_); refine w_box _ [.int .i64 b.slot, .int .i64 b.miner, .int .i64 b.var, .int .i64 b.parent, u] rfl rfl rfl rfl ?_; intro g1 w1 hg1 hX f1)
      | (go_at_call 85; refine (numbers_any _ _ _ _).mono ?_; rintro e w2 ⟨rfl, hx⟩; rw [hn.out]; replace f1 := f1.ext hx; replace hX := hX.trans hx; clear hx)
      | (go_at_call 86; refine (parent_any (b := b) hu0 (hp.out) _).mono ?_; rintro e w3 ⟨rfl, hx⟩; rw [hpar.out]; replace f1 := f1.ext hx; replace hX := hX.trans hx; clear hx)
      | (go_at_call 87; refine (TList_any (v := u) (hu.out.ext TxR.stays hX)).mono ?_; rintro e w4 ⟨v4, rfl, o4, hx⟩; rw [hle.out]; replace f1 := f1.ext hx; replace hX := hX.trans hx; clear hx o4)
      | ((with_reducible refine at_field ?_); (try refine w_yes _ _ _ rfl rfl rfl ?_); refine w_field Try.stBlk _ _ _ rfl rfl rfl (by omega) ?_)
      | ((with_reducible refine at_load ?_); (try refine w_yes _ _ _ rfl rfl rfl ?_); refine w_aload Try.stBlk _ rfl rfl rfl f1 rfl ?_)
      | ((with_reducible refine at_load ?_); (try refine w_yes _ _ _ rfl rfl rfl ?_); refine w_fload _ rfl rfl rfl f1 rfl (agg_of (by kernel_rfl)) ?_)
      | fail) <;> (try simp only [Act.put, List.setIfInBounds_toArray, List.set_cons_zero, List.set_cons_succ]))
    go_ret
    exact Keep.intro ⟨by rw [hdec.out]; rfl, hX⟩
  · have hle := hide_ (show tlE b.txs = 61 from if_neg h3)
    have hdec := hide_ (show decide b.Right = false from decide_eq_false fun h => h3 (hiff.1 h).2.2)
    clear hiff h1 h2 h3
    go_enter Try.func74, Try.ntmps74
    go_wp2_with ((first
      | ((with_reducible refine at_box ?_); refine w_box _ [.int .i64 b.slot, .int .i64 b.miner, .int .i64 b.var, .int .i64 b.parent, u] rfl rfl rfl rfl ?_; intro g1 w1 hg1 hX f1)
      | (go_at_call 85; refine (numbers_any _ _ _ _).mono ?_; rintro e w2 ⟨rfl, hx⟩; rw [hn.out]; replace f1 := f1.ext hx; replace hX := hX.trans hx; clear hx)
      | (go_at_call 86; refine (parent_any (b := b) hu0 (hp.out) _).mono ?_; rintro e w3 ⟨rfl, hx⟩; rw [hpar.out]; replace f1 := f1.ext hx; replace hX := hX.trans hx; clear hx)
      | (go_at_call 87; refine (TList_any (v := u) (hu.out.ext TxR.stays hX)).mono ?_; rintro e w4 ⟨v4, rfl, o4, hx⟩; rw [hle.out]; replace f1 := f1.ext hx; replace hX := hX.trans hx; clear hx o4)
      | ((with_reducible refine at_field ?_); (try refine w_yes _ _ _ rfl rfl rfl ?_); refine w_field Try.stBlk _ _ _ rfl rfl rfl (by omega) ?_)
      | ((with_reducible refine at_load ?_); (try refine w_yes _ _ _ rfl rfl rfl ?_); refine w_aload Try.stBlk _ rfl rfl rfl f1 rfl ?_)
      | ((with_reducible refine at_load ?_); (try refine w_yes _ _ _ rfl rfl rfl ?_); refine w_fload _ rfl rfl rfl f1 rfl (agg_of (by kernel_rfl)) ?_)
      | fail) <;> (try simp only [Act.put, List.setIfInBounds_toArray, List.set_cons_zero, List.set_cons_succ]))
    go_ret
    exact Keep.intro ⟨by rw [hdec.out]; rfl, hX⟩

set_option maxRecDepth 100000 in
set_option maxHeartbeats 800000 in
theorem BName_any {w : World} {u : Value} {b : BlkD} (hu0 : Recs 2 TxR w u b.txs) (hp : I64 b.parent) : Calls Try.prog 49 #[.agg #[.int .i64 b.slot, .int .i64 b.miner, .int .i64 b.var, .int .i64 b.parent, u]] w fun e w' => e = .returned (.int .i64 b.name) ∧ Ext w w' := by
  refine calls_keep ?_
  have hu := hide_ hu0
  replace hp := hide_ hp
  by_cases h : b.Right
  · have hdec := hide_ (decide_eq_true h)
    obtain ⟨⟨h1, h2⟩, ⟨h3, h4⟩, ⟨h5, h6⟩, _, _⟩ := h
    have hnm := hide_ (show b.name = b.slot * 65536 + b.miner * 256 + b.var from by rw [BlkD.name, if_pos (by simpa using hdec.out), BlkD.nm]; omega)
    go_enter Try.func49, Try.ntmps49
    go_wp2_with ((first
      | ((with_reducible refine at_box ?_); refine w_box _ [.int .i64 b.slot, .int .i64 b.miner, .int .i64 b.var, .int .i64 b.parent, u] rfl rfl rfl rfl ?_; intro g1 w1 hg1 hX f1)
      | (go_at_call 74; refine (BRight_any (b := b) (hu.out.ext TxR.stays hX) hp.out).mono ?_; rintro e w2 ⟨rfl, hx⟩; rw [hdec.out]; replace f1 := f1.ext hx; replace hX := hX.trans hx; clear hx)
      | ((with_reducible refine at_field ?_); (try refine w_yes _ _ _ rfl rfl rfl ?_); refine w_field Try.stBlk _ _ _ rfl rfl rfl (by omega) ?_)
      | ((with_reducible refine at_load ?_); (try refine w_yes _ _ _ rfl rfl rfl ?_); refine w_aload Try.stBlk _ rfl rfl rfl f1 rfl ?_)
      | ((with_reducible refine at_load ?_); (try refine w_yes _ _ _ rfl rfl rfl ?_); refine w_fload _ rfl rfl rfl f1 rfl (agg_of (by kernel_rfl)) ?_)
      | fail) <;> (try simp only [Act.put, List.setIfInBounds_toArray, List.set_cons_zero, List.set_cons_succ]))
    go_ret
    exact Keep.intro ⟨by rw [hnm.out]; rfl, hX⟩
  · have hdec := hide_ (decide_eq_false h)
    have hnm := hide_ (show b.name = 0 from by rw [BlkD.name, if_neg h])
    clear h
    go_enter Try.func49, Try.ntmps49
    go_wp2_with ((first
      | ((with_reducible refine at_box ?_); refine w_box _ [.int .i64 b.slot, .int .i64 b.miner, .int .i64 b.var, .int .i64 b.parent, u] rfl rfl rfl rfl ?_; intro g1 w1 hg1 hX f1)
      | (go_at_call 74; refine (BRight_any (b := b) (hu.out.ext TxR.stays hX) hp.out).mono ?_; rintro e w2 ⟨rfl, hx⟩; rw [hdec.out]; replace f1 := f1.ext hx; replace hX := hX.trans hx; clear hx)
      | ((with_reducible refine at_field ?_); (try refine w_yes _ _ _ rfl rfl rfl ?_); refine w_field Try.stBlk _ _ _ rfl rfl rfl (by omega) ?_)
      | ((with_reducible refine at_load ?_); (try refine w_yes _ _ _ rfl rfl rfl ?_); refine w_aload Try.stBlk _ rfl rfl rfl f1 rfl ?_)
      | ((with_reducible refine at_load ?_); (try refine w_yes _ _ _ rfl rfl rfl ?_); refine w_fload _ rfl rfl rfl f1 rfl (agg_of (by kernel_rfl)) ?_)
      | fail) <;> (try simp only [Act.put, List.setIfInBounds_toArray, List.set_cons_zero, List.set_cons_succ]))
    go_ret
    exact Keep.intro ⟨by rw [hnm.out]; rfl, hX⟩

/-! ### The document's -/
theorem results_tmp4 {fn : Func} {t u v x : Tmp} (h : fn.results = #[.tmp t, .tmp u, .tmp v, .tmp x]) (tmps : Array Value) (P : Program) (w : World) :
    (results fn tmps).run P w = .ok (.tuple #[tmps.getD t undef, tmps.getD u undef, tmps.getD v undef, tmps.getD x undef]) w := by
  simp [results, h]
def ptS (n : Int) : Int := if n < 0 then 0 else n / 65536
def ptM (n : Int) : Int := if n < 0 then 0 else n / 256 % 256
def ptV (n : Int) : Int := if n < 0 then 0 else n % 256
theorem ptS_of {n : Int} (h : 0 ≤ n) : ptS n = n / 65536 := by rw [ptS, if_neg (by omega)]
theorem ptM_of {n : Int} (h : 0 ≤ n) : ptM n = n / 256 % 256 := by rw [ptM, if_neg (by omega)]
theorem ptV_of {n : Int} (h : 0 ≤ n) : ptV n = n % 256 := by rw [ptV, if_neg (by omega)]
theorem nmOk_pt {n : Int} (h : 0 ≤ n) : NmOk n ↔ 1 ≤ n / 65536 ∧ n / 65536 ≤ 4095 ∧ n / 256 % 256 ≤ 6 := ⟨fun ⟨_, a, b, c⟩ => ⟨a, b, c⟩, fun ⟨a, b, c⟩ => ⟨h, a, b, c⟩⟩

set_option maxRecDepth 100000 in
set_option maxHeartbeats 800000 in
theorem Parts_any (n : Int) (h0 : -9223372036854775808 ≤ n) (h1 : n ≤ 9223372036854775807) (w : World) : Calls Try.prog 81 #[.int .i64 n] w fun e w' => e = .returned (.tuple #[.int .i64 (ptS n), .int .i64 (ptM n), .int .i64 (ptV n), .bool (decide (NmOk n))]) ∧ Ext w w' := by
  refine calls_keep ?_
  by_cases hn : n < 0
  · have t0 : decide (n < 0) = true := by simpa using hn
    have e1 := hide_ (show ptS n = 0 from if_pos hn)
    have e2 := hide_ (show ptM n = 0 from if_pos hn)
    have e3 := hide_ (show ptV n = 0 from if_pos hn)
    have e4 := hide_ (show decide (NmOk n) = false from decide_eq_false fun h => by have := h.pos; omega)
    clear hn
    go_enter Try.func81, Try.ntmps81
    go_wp2
    refine bodyPost_ret (results_tmp4 rfl _ _ _) rfl ?_
    exact Keep.intro ⟨by rw [e1.out, e2.out, e3.out, e4.out]; rfl, Ext.refl _⟩
  have t0 : decide (n < 0) = false := by simpa using hn
  have hn0 : 0 ≤ n := by omega
  have e1 := hide_ (ptS_of hn0)
  have e2 := hide_ (ptM_of hn0)
  have e3 := hide_ (ptV_of hn0)
  have hiff := nmOk_pt hn0
  clear hn
  by_cases k1 : 1 ≤ n / 65536
  · have t1 : decide (1 ≤ n / 65536) = true := by simp; omega
    by_cases k2 : n / 65536 ≤ 4095
    · have t2 : decide (n / 65536 ≤ 4095) = true := by simp; omega
      by_cases k3 : n / 256 % 256 ≤ 6
      · have t3 : decide (n / 256 % 256 ≤ 6) = true := by simp; omega
        have e4 := hide_ (show decide (NmOk n) = true from decide_eq_true (hiff.2 ⟨k1, k2, k3⟩))
        clear hiff k1 k2 k3
        go_enter Try.func81, Try.ntmps81
        go_wp2
        refine bodyPost_ret (results_tmp4 rfl _ _ _) rfl ?_
        exact Keep.intro ⟨by rw [e1.out, e2.out, e3.out, e4.out]; rfl, Ext.refl _⟩
      · have t3 : decide (n / 256 % 256 ≤ 6) = false := by simp; omega
        have e4 := hide_ (show decide (NmOk n) = false from decide_eq_false (fun h => k3 (by obtain ⟨_, _, _⟩ := hiff.1 h; assumption)))
        clear hiff k1 k2 k3
        go_enter Try.func81, Try.ntmps81
        go_wp2
        refine bodyPost_ret (results_tmp4 rfl _ _ _) rfl ?_
        exact Keep.intro ⟨by rw [e1.out, e2.out, e3.out, e4.out]; rfl, Ext.refl _⟩
    · have t2 : decide (n / 65536 ≤ 4095) = false := by simp; omega
      have e4 := hide_ (show decide (NmOk n) = false from decide_eq_false (fun h => k2 (by obtain ⟨_, _, _⟩ := hiff.1 h; assumption)))
      clear hiff k1 k2
      go_enter Try.func81, Try.ntmps81
      go_wp2
      refine bodyPost_ret (results_tmp4 rfl _ _ _) rfl ?_
      exact Keep.intro ⟨by rw [e1.out, e2.out, e3.out, e4.out]; rfl, Ext.refl _⟩
  · have t1 : decide (1 ≤ n / 65536) = false := by simp; omega
    have e4 := hide_ (show decide (NmOk n) = false from decide_eq_false (fun h => k1 (by obtain ⟨_, _, _⟩ := hiff.1 h; assumption)))
    clear hiff k1
    go_enter Try.func81, Try.ntmps81
    go_wp2
    refine bodyPost_ret (results_tmp4 rfl _ _ _) rfl ?_
    exact Keep.intro ⟨by rw [e1.out, e2.out, e3.out, e4.out]; rfl, Ext.refl _⟩

set_option maxRecDepth 100000 in
set_option maxHeartbeats 800000 in
theorem refBRight_any {w : World} {u : Value} {b : BlkD} (hu0 : Recs 2 TxR w u b.txs) (hp : I64 b.parent) : Calls Try.prog 64 #[.agg #[.int .i64 b.slot, .int .i64 b.miner, .int .i64 b.var, .int .i64 b.parent, u]] w fun e w' => e = .returned (.bool (decide b.Right)) ∧ Ext w w' := by
  refine calls_keep ?_
  have hu := hide_ hu0
  replace hp := hide_ hp
  have hiff := b.right_iff
  by_cases h1 : 1 ≤ b.slot
  · have t1 : decide (b.slot < 1) = false := by simp; omega
    by_cases h2 : b.slot ≤ 4095
    · have t2 : decide (4095 < b.slot) = false := by simp; omega
      by_cases h3 : 0 ≤ b.miner
      · have t3 : decide (b.miner < 0) = false := by simp; omega
        by_cases h4 : b.miner ≤ 6
        · have t4 : decide (6 < b.miner) = false := by simp; omega
          by_cases h5 : 0 ≤ b.var
          · have t5 : decide (b.var < 0) = false := by simp; omega
            by_cases h6 : b.var ≤ 255
            · have t6 : decide (255 < b.var) = false := by simp; omega
              have hnum : NumOk b.slot b.miner b.var := ⟨⟨h1, h2⟩, ⟨h3, h4⟩, ⟨h5, h6⟩⟩
              clear h1 h2 h3 h4 h5 h6
              by_cases h7 : LsOk b.txs
              rotate_left
              · have hle := hide_ (show tlE b.txs = 61 from if_neg h7)
                have hdec := hide_ (show decide b.Right = false from decide_eq_false fun h => h7 (hiff.1 h).2.2)
                clear hiff h7 hnum
                go_enter Try.func64, Try.ntmps64
                go_wp2_with ((first
                  | ((with_reducible refine at_box ?_); refine w_box _ [.int .i64 b.slot, .int .i64 b.miner, .int .i64 b.var, .int .i64 b.parent, u] rfl rfl rfl rfl ?_; intro g1 w1 hg1 hX f1)
                  | (go_at_call 80; refine (refTList_any (v := u) (hu.out.ext TxR.stays hX)).mono ?_; rintro e w4 ⟨v4, rfl, o4, hx⟩; rw [hle.out]; replace f1 := f1.ext hx; replace hX := hX.trans hx; clear hx o4)
                  | ((with_reducible refine at_field ?_); (try refine w_yes _ _ _ rfl rfl rfl ?_); refine w_field Try.stBlk _ _ _ rfl rfl rfl (by omega) ?_)
                  | ((with_reducible refine at_load ?_); (try refine w_yes _ _ _ rfl rfl rfl ?_); refine w_fload _ rfl rfl rfl f1 rfl (agg_of (by kernel_rfl)) ?_)
                  | fail) <;> (try simp only [Act.put, List.setIfInBounds_toArray, List.set_cons_zero, List.set_cons_succ]))
                go_ret
                exact Keep.intro ⟨by rw [hdec.out]; rfl, hX⟩
              have hle := hide_ (show tlE b.txs = 0 from if_pos h7)
              cases h0 : (b.parent == 0)
              rotate_left
              · have hdec := hide_ (show decide b.Right = true from decide_eq_true (hiff.2 ⟨hnum, .inl (by simpa using h0), h7⟩))
                clear hiff h7 hnum
                go_enter Try.func64, Try.ntmps64
                go_wp2_with ((first
                  | ((with_reducible refine at_box ?_); refine w_box _ [.int .i64 b.slot, .int .i64 b.miner, .int .i64 b.var, .int .i64 b.parent, u] rfl rfl rfl rfl ?_; intro g1 w1 hg1 hX f1)
                  | (go_at_call 80; refine (refTList_any (v := u) (hu.out.ext TxR.stays hX)).mono ?_; rintro e w4 ⟨v4, rfl, o4, hx⟩; rw [hle.out]; replace f1 := f1.ext hx; replace hX := hX.trans hx; clear hx o4)
                  | ((with_reducible refine at_field ?_); (try refine w_yes _ _ _ rfl rfl rfl ?_); refine w_field Try.stBlk _ _ _ rfl rfl rfl (by omega) ?_)
                  | ((with_reducible refine at_load ?_); (try refine w_yes _ _ _ rfl rfl rfl ?_); refine w_fload _ rfl rfl rfl f1 rfl (agg_of (by kernel_rfl)) ?_)
                  | fail) <;> (try simp only [Act.put, List.setIfInBounds_toArray, List.set_cons_zero, List.set_cons_succ]))
                go_ret
                exact Keep.intro ⟨by rw [hdec.out]; rfl, hX⟩
              have hpar : ParOk b.parent b.slot ↔ NmOk b.parent ∧ ptS b.parent < b.slot := by
                have hne : b.parent ≠ 0 := by simpa using h0
                constructor
                · rintro (k | ⟨k, k2⟩)
                  · exact absurd k hne
                  · exact ⟨k, by have := k.pos; rw [ptS, if_neg (by omega)]; exact k2⟩
                · rintro ⟨k, k2⟩
                  have := k.pos
                  rw [ptS, if_neg (by omega)] at k2
                  exact .inr ⟨k, k2⟩
              obtain ⟨n, hns'⟩ : ∃ n, ptS b.parent = n := ⟨_, rfl⟩
              have hns := hide_ hns'
              rw [hns'] at hpar
              by_cases h8 : NmOk b.parent
              rotate_left
              · have hok := hide_ (decide_eq_false h8)
                have hdec := hide_ (show decide b.Right = false from decide_eq_false fun h => h8 (hpar.1 (hiff.1 h).2.1).1)
                clear hiff h7 h8 hnum hpar hns'
                go_enter Try.func64, Try.ntmps64
                go_wp2_with ((first
                  | ((with_reducible refine at_box ?_); refine w_box _ [.int .i64 b.slot, .int .i64 b.miner, .int .i64 b.var, .int .i64 b.parent, u] rfl rfl rfl rfl ?_; intro g1 w1 hg1 hX f1)
                  | (go_at_call 80; refine (refTList_any (v := u) (hu.out.ext TxR.stays hX)).mono ?_; rintro e w4 ⟨v4, rfl, o4, hx⟩; rw [hle.out]; replace f1 := f1.ext hx; replace hX := hX.trans hx; clear hx o4)
                  | (go_at_call 81; refine (Parts_any b.parent hp.out.1 hp.out.2 _).mono ?_; rintro e w5 ⟨rfl, hx⟩; rw [hok.out, hns.out]; replace f1 := f1.ext hx; replace hX := hX.trans hx; clear hx)
                  | ((with_reducible refine at_field ?_); (try refine w_yes _ _ _ rfl rfl rfl ?_); refine w_field Try.stBlk _ _ _ rfl rfl rfl (by omega) ?_)
                  | ((with_reducible refine at_load ?_); (try refine w_yes _ _ _ rfl rfl rfl ?_); refine w_aload Try.stBlk _ rfl rfl rfl f1 rfl ?_)
                  | ((with_reducible refine at_load ?_); (try refine w_yes _ _ _ rfl rfl rfl ?_); refine w_fload _ rfl rfl rfl f1 rfl (agg_of (by kernel_rfl)) ?_)
                  | fail) <;> (try simp only [Act.put, List.setIfInBounds_toArray, List.set_cons_zero, List.set_cons_succ]))
                go_ret
                exact Keep.intro ⟨by rw [hdec.out]; rfl, hX⟩
              have hok := hide_ (decide_eq_true h8)
              by_cases h9 : n < b.slot
              · have t9 : decide (n < b.slot) = true := by simpa using h9
                have hdec := hide_ (show decide b.Right = true from decide_eq_true (hiff.2 ⟨hnum, hpar.2 ⟨h8, h9⟩, h7⟩))
                clear hiff h7 h8 h9 hnum hpar hns'
                go_enter Try.func64, Try.ntmps64
                go_wp2_with ((first
                  | ((with_reducible refine at_box ?_); refine w_box _ [.int .i64 b.slot, .int .i64 b.miner, .int .i64 b.var, .int .i64 b.parent, u] rfl rfl rfl rfl ?_; intro g1 w1 hg1 hX f1)
                  | (go_at_call 80; refine (refTList_any (v := u) (hu.out.ext TxR.stays hX)).mono ?_; rintro e w4 ⟨v4, rfl, o4, hx⟩; rw [hle.out]; replace f1 := f1.ext hx; replace hX := hX.trans hx; clear hx o4)
                  | (go_at_call 81; refine (Parts_any b.parent hp.out.1 hp.out.2 _).mono ?_; rintro e w5 ⟨rfl, hx⟩; rw [hok.out, hns.out]; replace f1 := f1.ext hx; replace hX := hX.trans hx; clear hx)
                  | ((with_reducible refine at_field ?_); (try refine w_yes _ _ _ rfl rfl rfl ?_); refine w_field Try.stBlk _ _ _ rfl rfl rfl (by omega) ?_)
                  | ((with_reducible refine at_load ?_); (try refine w_yes _ _ _ rfl rfl rfl ?_); refine w_aload Try.stBlk _ rfl rfl rfl f1 rfl ?_)
                  | ((with_reducible refine at_load ?_); (try refine w_yes _ _ _ rfl rfl rfl ?_); refine w_fload _ rfl rfl rfl f1 rfl (agg_of (by kernel_rfl)) ?_)
                  | fail) <;> (try simp only [Act.put, List.setIfInBounds_toArray, List.set_cons_zero, List.set_cons_succ]))
                go_ret
                exact Keep.intro ⟨by rw [hdec.out]; rfl, hX⟩
              · have t9 : decide (n < b.slot) = false := by simpa using h9
                have hdec := hide_ (show decide b.Right = false from decide_eq_false fun h => h9 (hpar.1 (hiff.1 h).2.1).2)
                clear hiff h7 h8 h9 hnum hpar hns'
                go_enter Try.func64, Try.ntmps64
                go_wp2_with ((first
                  | ((with_reducible refine at_box ?_); refine w_box _ [.int .i64 b.slot, .int .i64 b.miner, .int .i64 b.var, .int .i64 b.parent, u] rfl rfl rfl rfl ?_; intro g1 w1 hg1 hX f1)
                  | (go_at_call 80; refine (refTList_any (v := u) (hu.out.ext TxR.stays hX)).mono ?_; rintro e w4 ⟨v4, rfl, o4, hx⟩; rw [hle.out]; replace f1 := f1.ext hx; replace hX := hX.trans hx; clear hx o4)
                  | (go_at_call 81; refine (Parts_any b.parent hp.out.1 hp.out.2 _).mono ?_; rintro e w5 ⟨rfl, hx⟩; rw [hok.out, hns.out]; replace f1 := f1.ext hx; replace hX := hX.trans hx; clear hx)
                  | ((with_reducible refine at_field ?_); (try refine w_yes _ _ _ rfl rfl rfl ?_); refine w_field Try.stBlk _ _ _ rfl rfl rfl (by omega) ?_)
                  | ((with_reducible refine at_load ?_); (try refine w_yes _ _ _ rfl rfl rfl ?_); refine w_aload Try.stBlk _ rfl rfl rfl f1 rfl ?_)
                  | ((with_reducible refine at_load ?_); (try refine w_yes _ _ _ rfl rfl rfl ?_); refine w_fload _ rfl rfl rfl f1 rfl (agg_of (by kernel_rfl)) ?_)
                  | fail) <;> (try simp only [Act.put, List.setIfInBounds_toArray, List.set_cons_zero, List.set_cons_succ]))
                go_ret
                exact Keep.intro ⟨by rw [hdec.out]; rfl, hX⟩
            · have t6 : decide (255 < b.var) = true := by simp; omega
              have hdec := hide_ (show decide b.Right = false from decide_eq_false fun h => h6 (by obtain ⟨⟨⟨_, _⟩, ⟨_, _⟩, ⟨_, _⟩⟩, _, _⟩ := hiff.1 h; assumption))
              clear hiff h1 h2 h3 h4 h5 h6
              go_enter Try.func64, Try.ntmps64
              go_wp2_with ((first
                | ((with_reducible refine at_box ?_); refine w_box _ [.int .i64 b.slot, .int .i64 b.miner, .int .i64 b.var, .int .i64 b.parent, u] rfl rfl rfl rfl ?_; intro g1 w1 hg1 hX f1)
                | ((with_reducible refine at_field ?_); (try refine w_yes _ _ _ rfl rfl rfl ?_); refine w_field Try.stBlk _ _ _ rfl rfl rfl (by omega) ?_)
                | ((with_reducible refine at_load ?_); (try refine w_yes _ _ _ rfl rfl rfl ?_); refine w_fload _ rfl rfl rfl f1 rfl (agg_of (by kernel_rfl)) ?_)
                | fail) <;> (try simp only [Act.put, List.setIfInBounds_toArray, List.set_cons_zero, List.set_cons_succ]))
              go_ret
              exact Keep.intro ⟨by rw [hdec.out]; rfl, hX⟩
          · have t5 : decide (b.var < 0) = true := by simp; omega
            have hdec := hide_ (show decide b.Right = false from decide_eq_false fun h => h5 (by obtain ⟨⟨⟨_, _⟩, ⟨_, _⟩, ⟨_, _⟩⟩, _, _⟩ := hiff.1 h; assumption))
            clear hiff h1 h2 h3 h4 h5
            go_enter Try.func64, Try.ntmps64
            go_wp2_with ((first
              | ((with_reducible refine at_box ?_); refine w_box _ [.int .i64 b.slot, .int .i64 b.miner, .int .i64 b.var, .int .i64 b.parent, u] rfl rfl rfl rfl ?_; intro g1 w1 hg1 hX f1)
              | ((with_reducible refine at_field ?_); (try refine w_yes _ _ _ rfl rfl rfl ?_); refine w_field Try.stBlk _ _ _ rfl rfl rfl (by omega) ?_)
              | ((with_reducible refine at_load ?_); (try refine w_yes _ _ _ rfl rfl rfl ?_); refine w_fload _ rfl rfl rfl f1 rfl (agg_of (by kernel_rfl)) ?_)
              | fail) <;> (try simp only [Act.put, List.setIfInBounds_toArray, List.set_cons_zero, List.set_cons_succ]))
            go_ret
            exact Keep.intro ⟨by rw [hdec.out]; rfl, hX⟩
        · have t4 : decide (6 < b.miner) = true := by simp; omega
          have hdec := hide_ (show decide b.Right = false from decide_eq_false fun h => h4 (by obtain ⟨⟨⟨_, _⟩, ⟨_, _⟩, ⟨_, _⟩⟩, _, _⟩ := hiff.1 h; assumption))
          clear hiff h1 h2 h3 h4
          go_enter Try.func64, Try.ntmps64
          go_wp2_with ((first
            | ((with_reducible refine at_box ?_); refine w_box _ [.int .i64 b.slot, .int .i64 b.miner, .int .i64 b.var, .int .i64 b.parent, u] rfl rfl rfl rfl ?_; intro g1 w1 hg1 hX f1)
            | ((with_reducible refine at_field ?_); (try refine w_yes _ _ _ rfl rfl rfl ?_); refine w_field Try.stBlk _ _ _ rfl rfl rfl (by omega) ?_)
            | ((with_reducible refine at_load ?_); (try refine w_yes _ _ _ rfl rfl rfl ?_); refine w_fload _ rfl rfl rfl f1 rfl (agg_of (by kernel_rfl)) ?_)
            | fail) <;> (try simp only [Act.put, List.setIfInBounds_toArray, List.set_cons_zero, List.set_cons_succ]))
          go_ret
          exact Keep.intro ⟨by rw [hdec.out]; rfl, hX⟩
      · have t3 : decide (b.miner < 0) = true := by simp; omega
        have hdec := hide_ (show decide b.Right = false from decide_eq_false fun h => h3 (by obtain ⟨⟨⟨_, _⟩, ⟨_, _⟩, ⟨_, _⟩⟩, _, _⟩ := hiff.1 h; assumption))
        clear hiff h1 h2 h3
        go_enter Try.func64, Try.ntmps64
        go_wp2_with ((first
          | ((with_reducible refine at_box ?_); refine w_box _ [.int .i64 b.slot, .int .i64 b.miner, .int .i64 b.var, .int .i64 b.parent, u] rfl rfl rfl rfl ?_; intro g1 w1 hg1 hX f1)
          | ((with_reducible refine at_field ?_); (try refine w_yes _ _ _ rfl rfl rfl ?_); refine w_field Try.stBlk _ _ _ rfl rfl rfl (by omega) ?_)
          | ((with_reducible refine at_load ?_); (try refine w_yes _ _ _ rfl rfl rfl ?_); refine w_fload _ rfl rfl rfl f1 rfl (agg_of (by kernel_rfl)) ?_)
          | fail) <;> (try simp only [Act.put, List.setIfInBounds_toArray, List.set_cons_zero, List.set_cons_succ]))
        go_ret
        exact Keep.intro ⟨by rw [hdec.out]; rfl, hX⟩
    · have t2 : decide (4095 < b.slot) = true := by simp; omega
      have hdec := hide_ (show decide b.Right = false from decide_eq_false fun h => h2 (by obtain ⟨⟨⟨_, _⟩, ⟨_, _⟩, ⟨_, _⟩⟩, _, _⟩ := hiff.1 h; assumption))
      clear hiff h1 h2
      go_enter Try.func64, Try.ntmps64
      go_wp2_with ((first
        | ((with_reducible refine at_box ?_); refine w_box _ [.int .i64 b.slot, .int .i64 b.miner, .int .i64 b.var, .int .i64 b.parent, u] rfl rfl rfl rfl ?_; intro g1 w1 hg1 hX f1)
        | ((with_reducible refine at_field ?_); (try refine w_yes _ _ _ rfl rfl rfl ?_); refine w_field Try.stBlk _ _ _ rfl rfl rfl (by omega) ?_)
        | ((with_reducible refine at_load ?_); (try refine w_yes _ _ _ rfl rfl rfl ?_); refine w_fload _ rfl rfl rfl f1 rfl (agg_of (by kernel_rfl)) ?_)
        | fail) <;> (try simp only [Act.put, List.setIfInBounds_toArray, List.set_cons_zero, List.set_cons_succ]))
      go_ret
      exact Keep.intro ⟨by rw [hdec.out]; rfl, hX⟩
  · have t1 : decide (b.slot < 1) = true := by simp; omega
    have hdec := hide_ (show decide b.Right = false from decide_eq_false fun h => h1 (by obtain ⟨⟨⟨_, _⟩, ⟨_, _⟩, ⟨_, _⟩⟩, _, _⟩ := hiff.1 h; assumption))
    clear hiff h1
    go_enter Try.func64, Try.ntmps64
    go_wp2_with ((first
      | ((with_reducible refine at_box ?_); refine w_box _ [.int .i64 b.slot, .int .i64 b.miner, .int .i64 b.var, .int .i64 b.parent, u] rfl rfl rfl rfl ?_; intro g1 w1 hg1 hX f1)
      | ((with_reducible refine at_field ?_); (try refine w_yes _ _ _ rfl rfl rfl ?_); refine w_field Try.stBlk _ _ _ rfl rfl rfl (by omega) ?_)
      | ((with_reducible refine at_load ?_); (try refine w_yes _ _ _ rfl rfl rfl ?_); refine w_fload _ rfl rfl rfl f1 rfl (agg_of (by kernel_rfl)) ?_)
      | fail) <;> (try simp only [Act.put, List.setIfInBounds_toArray, List.set_cons_zero, List.set_cons_succ]))
    go_ret
    exact Keep.intro ⟨by rw [hdec.out]; rfl, hX⟩

set_option maxRecDepth 100000 in
set_option maxHeartbeats 800000 in
theorem refBName_any {w : World} {u : Value} {b : BlkD} (hu0 : Recs 2 TxR w u b.txs) (hp : I64 b.parent) : Calls Try.prog 35 #[.agg #[.int .i64 b.slot, .int .i64 b.miner, .int .i64 b.var, .int .i64 b.parent, u]] w fun e w' => e = .returned (.int .i64 b.name) ∧ Ext w w' := by
  refine calls_keep ?_
  have hu := hide_ hu0
  replace hp := hide_ hp
  by_cases h : b.Right
  · have hdec := hide_ (decide_eq_true h)
    obtain ⟨⟨h1, h2⟩, ⟨h3, h4⟩, ⟨h5, h6⟩, _, _⟩ := h
    have hnm := hide_ (show b.name = (b.slot * 256 + b.miner) * 256 + b.var from by rw [BlkD.name, if_pos (by simpa using hdec.out), BlkD.nm])
    go_enter Try.func35, Try.ntmps35
    go_wp2_with ((first
      | ((with_reducible refine at_box ?_); refine w_box _ [.int .i64 b.slot, .int .i64 b.miner, .int .i64 b.var, .int .i64 b.parent, u] rfl rfl rfl rfl ?_; intro g1 w1 hg1 hX f1)
      | (go_at_call 64; refine (refBRight_any (b := b) (hu.out.ext TxR.stays hX) hp.out).mono ?_; rintro e w2 ⟨rfl, hx⟩; rw [hdec.out]; replace f1 := f1.ext hx; replace hX := hX.trans hx; clear hx)
      | ((with_reducible refine at_field ?_); (try refine w_yes _ _ _ rfl rfl rfl ?_); refine w_field Try.stBlk _ _ _ rfl rfl rfl (by omega) ?_)
      | ((with_reducible refine at_load ?_); (try refine w_yes _ _ _ rfl rfl rfl ?_); refine w_aload Try.stBlk _ rfl rfl rfl f1 rfl ?_)
      | ((with_reducible refine at_load ?_); (try refine w_yes _ _ _ rfl rfl rfl ?_); refine w_fload _ rfl rfl rfl f1 rfl (agg_of (by kernel_rfl)) ?_)
      | fail) <;> (try simp only [Act.put, List.setIfInBounds_toArray, List.set_cons_zero, List.set_cons_succ]))
    go_ret
    exact Keep.intro ⟨by rw [hnm.out]; rfl, hX⟩
  · have hdec := hide_ (decide_eq_false h)
    have hnm := hide_ (show b.name = 0 from by rw [BlkD.name, if_neg h])
    clear h
    go_enter Try.func35, Try.ntmps35
    go_wp2_with ((first
      | ((with_reducible refine at_box ?_); refine w_box _ [.int .i64 b.slot, .int .i64 b.miner, .int .i64 b.var, .int .i64 b.parent, u] rfl rfl rfl rfl ?_; intro g1 w1 hg1 hX f1)
      | (go_at_call 64; refine (refBRight_any (b := b) (hu.out.ext TxR.stays hX) hp.out).mono ?_; rintro e w2 ⟨rfl, hx⟩; rw [hdec.out]; replace f1 := f1.ext hx; replace hX := hX.trans hx; clear hx)
      | ((with_reducible refine at_field ?_); (try refine w_yes _ _ _ rfl rfl rfl ?_); refine w_field Try.stBlk _ _ _ rfl rfl rfl (by omega) ?_)
      | ((with_reducible refine at_load ?_); (try refine w_yes _ _ _ rfl rfl rfl ?_); refine w_aload Try.stBlk _ rfl rfl rfl f1 rfl ?_)
      | ((with_reducible refine at_load ?_); (try refine w_yes _ _ _ rfl rfl rfl ?_); refine w_fload _ rfl rfl rfl f1 rfl (agg_of (by kernel_rfl)) ?_)
      | fail) <;> (try simp only [Act.put, List.setIfInBounds_toArray, List.set_cons_zero, List.set_cons_succ]))
    go_ret
    exact Keep.intro ⟨by rw [hnm.out]; rfl, hX⟩
end Go.Proofs.Ytdacclcaopmalaa
