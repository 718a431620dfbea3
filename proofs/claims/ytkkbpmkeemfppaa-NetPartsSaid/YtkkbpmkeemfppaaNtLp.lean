/- NetParts returns true: being on one side is the same both ways, and goes on from one to the next; nobody goes to itself, and to all is to each. No condition: any mask, any numbers. -/
import Derived.Test.YtkkbpmkeemfppaaNtLa
import Derived.Test.YtkkbpmkeemfppaaArr3
import Derived.Deep.Cut
namespace Go.Proofs.Ytkkbpmkeemfppaa
open Go.RowKit Go.ChangeShapes Go.WideShapes Go.ChangeAt

theorem sameM_symm (b : Nat → Bool) (x y : Int) : sameM b y x = sameM b x y := by
  unfold sameM
  rw [Bool.beq_comm (a := b y.toNat)]
  cases decide (0 ≤ x ∧ x ≤ 6) <;> cases decide (0 ≤ y ∧ y ≤ 6) <;> rfl
theorem sameM_trans {b : Nat → Bool} {x y z : Int} (h1 : sameM b x y = true) (h2 : sameM b y z = true) : sameM b x z = true := by
  unfold sameM at *
  simp only [Bool.and_eq_true, beq_iff_eq] at *
  exact ⟨h1.1, h2.2.1, h1.2.2.trans h2.2.2⟩
theorem goN_none {to fr : Int} : ∀ {n : Nat}, ((to < 0 ∧ to ≠ -1) ∨ (n : Int) ≤ to) → goN to fr n = []
  | 0, _ => rfl
  | n + 1, h => by
    have : goesTo to fr n = false := by
      unfold goesTo
      have h1 : (to == -1) = false := beq_eq_false_iff_ne.2 (by omega)
      have h2 : (to == (n : Int)) = false := beq_eq_false_iff_ne.2 (by omega)
      rw [h1, h2]; simp
    unfold goN
    rw [this]
    exact goN_none (n := n) (by omega)
theorem goN_one {j : Nat} {fr : Int} : ∀ {n : Nat}, j < n → goN (j : Int) fr n = if ((j : Int) != fr) = true then [(j : Int)] else []
  | 0, h => by omega
  | n + 1, h => by
    unfold goN
    by_cases e : j = n
    · subst e
      have h0 : goN (j : Int) fr j = [] := goN_none (by omega)
      have : goesTo (j : Int) fr j = ((j : Int) != fr) := by unfold goesTo; simp
      rw [this, h0]; rfl
    · have h0 : goesTo (j : Int) fr n = false := by
        unfold goesTo
        have h1 : ((j : Int) == -1) = false := beq_eq_false_iff_ne.2 (by omega)
        have h2 : ((j : Int) == (n : Int)) = false := beq_eq_false_iff_ne.2 (by omega)
        rw [h1, h2]; simp
      rw [h0]
      exact goN_one (n := n) (by omega)
theorem goN_step {fr : Int} {k n : Nat} (h : k < n) : goN (-1) fr k ++ goN (k : Int) fr n = goN (-1) fr (k + 1) := by
  rw [goN_one h, goN]
  have : goesTo (-1) fr k = ((k : Int) != fr) := by unfold goesTo; simp
  rw [this]
  cases ((k : Int) != fr) <;> simp
theorem goN_ne {to fr x : Int} : ∀ {n : Nat}, x ∈ goN to fr n → x ≠ fr
  | 0, h => by simp [goN] at h
  | n + 1, h => by
    unfold goN at h
    split at h
    · rename_i hg
      rcases List.mem_append.1 h with h | h
      · exact goN_ne h
      · simp at h
        subst h
        unfold goesTo at hg
        simp only [Bool.and_eq_true, bne_iff_ne] at hg
        exact hg.1
    · exact goN_ne h
set_option maxRecDepth 100000 in
set_option maxHeartbeats 3200000 in
theorem netParts_law (m a b c n : Int) (w : World) (hn0 : -9223372036854775808 ≤ n) : Calls Try.prog 7 #[.int .i64 m, .agg #[.int .i64 a, .int .i64 b, .int .i64 c], .int .i64 n] w fun e w' => e = .returned (.bool true) ∧ Ext w w' := by
  refine calls_keep ?_
  have hn := hide_ hn0
  obtain ⟨r1, hr1⟩ : ∃ q, sameM (bitM m) a b = q := ⟨_, rfl⟩
  obtain ⟨r3, hr3⟩ : ∃ q, sameM (bitM m) b c = q := ⟨_, rfl⟩
  obtain ⟨r4, hr4⟩ : ∃ q, sameM (bitM m) a c = q := ⟨_, rfl⟩
  have htr : r1 = true → r3 = true → r4 = true := fun h1 h3 => hr4 ▸ sameM_trans (hr1.trans h1) (hr3.trans h3)
  have q1 := hide_ hr1
  have q2 := hide_ ((sameM_symm (bitM m) a b).trans hr1)
  have q3 := hide_ hr3
  have q4 := hide_ hr4
  have hX := Ext.refl w
  clear hn0 hr1 hr3 hr4
  go_enter Try.func7, Try.ntmps7
  go_wp2_with ((first
    | ((with_reducible refine at_box ?_); refine w_box _ [.int .i64 a, .int .i64 b, .int .i64 c] rfl rfl rfl rfl ?_; intro g4 w1 hg4 hx f4; replace f4 := hide_ f4; replace hX := hX.trans hx; clear hx hg4)
    | (go_at_call 12; refine (netAlive_any _).mono ?_; rintro e w4 ⟨rfl, hx⟩; replace f4 := hide_ (f4.out.ext hx); replace hX := hX.trans hx; clear hx)
    | (go_at_call 9; refine (SNew_any).mono ?_; rintro e w4 ⟨p, rfl, fs, hx, hp⟩; replace fs := hide_ fs; have n4 := hide_ (show ¬ g4 = p from fun e => absurd f4.out.lt (by omega)); replace f4 := hide_ (f4.out.ext hx); replace hp := hide_ (Nat.le_trans hX.size hp); replace hX := hX.trans hx; clear hx)
    | (go_at_call 23; refine (SCut_any (m := m) fs.out).mono ?_; rintro e w4 ⟨rfl, fs', hm⟩; replace fs := hide_ fs'; replace f4 := hide_ (f4.out.mod hm n4.out); replace hX := hm.after hX (fun k hk => hk ▸ hp.out); clear fs' hm)
    | fail) <;> (try simp only [Act.put, List.setIfInBounds_toArray, List.set_cons_zero, List.set_cons_succ]))
  refine wp_region_phx (by kernel_rfl) ?_; intro wd hxd; have F4 := f4.out.ext hxd
  refine Ph.rest 0 9 (by kernel_rfl) ?_
  refine LinL.step (s := (.val (.pointer (some ⟨g4, 0, none⟩)))) [(4, none)] rfl (by kernel_rfl) (op_runs rfl fun σ w' hx hg => ⟨_, runs_ar (ρ := σ.eval) (w := w') (i := 0) Try.underlying47 (by kernel_rfl) (.tmp 4) (.const (.int .i64 0)) rfl hg.1 rfl (by omega), rfl⟩) ?_
  refine LinL.step (s := (.val (.int .i64 a))) [(22, some 0)] rfl (by kernel_rfl) (op_runs rfl fun σ w' hx hg => ⟨_, runs_fload (ρ := σ.eval) (w := w') (.tmp 22) rfl hg.1 (agg_of (by kernel_rfl) _) (F4.ext hx) rfl, rfl⟩) ?_
  refine LinL.step (s := (.val (.pointer (some ⟨g4, 1, none⟩)))) [(4, none)] rfl (by kernel_rfl) (op_runs rfl fun σ w' hx hg => ⟨_, runs_ar (ρ := σ.eval) (w := w') (i := 1) Try.underlying47 (by kernel_rfl) (.tmp 4) (.const (.int .i64 1)) rfl hg.1 rfl (by omega), rfl⟩) ?_
  refine LinL.step (s := (.val (.int .i64 b))) [(24, some 0)] rfl (by kernel_rfl) (op_runs rfl fun σ w' hx hg => ⟨_, runs_fload (ρ := σ.eval) (w := w') (.tmp 24) rfl hg.1 (agg_of (by kernel_rfl) _) (F4.ext hx) rfl, rfl⟩) ?_
  refine LinL.step (s := (.val (.pointer (some ⟨g4, 2, none⟩)))) [(4, none)] rfl (by kernel_rfl) (op_runs rfl fun σ w' hx hg => ⟨_, runs_ar (ρ := σ.eval) (w := w') (i := 2) Try.underlying47 (by kernel_rfl) (.tmp 4) (.const (.int .i64 2)) rfl hg.1 rfl (by omega), rfl⟩) ?_
  refine LinL.step (s := (.val (.int .i64 c))) [(26, some 0)] rfl (by kernel_rfl) (op_runs rfl fun σ w' hx hg => ⟨_, runs_fload (ρ := σ.eval) (w := w') (.tmp 26) rfl hg.1 (agg_of (by kernel_rfl) _) (F4.ext hx) rfl, rfl⟩) ?_
  refine LinL.step (s := (.val (.int .i64 a))) [(23, some 4)] rfl (by kernel_rfl) (op_copy 23 4 (.val (.int .i64 a)) rfl (.inr rfl) rfl) ?_
  refine LinL.step (s := (.val (.int .i64 b))) [(25, some 3)] rfl (by kernel_rfl) (op_copy 25 3 (.val (.int .i64 b)) rfl (.inr rfl) rfl) ?_
  refine LinL.step (s := (.val (.int .i64 c))) [(27, some 2)] rfl (by kernel_rfl) (op_copy 27 2 (.val (.int .i64 c)) rfl (.inr rfl) rfl) ?_
  intro wN hxN
  simp only [Fin', List.reverse_cons, List.reverse_nil, List.nil_append, List.cons_append, List.drop_zero, List.take_succ_cons, List.take_zero]
  simp only [Act.put, List.setIfInBounds_toArray, List.set_cons_zero, List.set_cons_succ]
  replace fs := hide_ (fs.out.ext (hxd.trans hxN)); replace hX := hX.trans (hxd.trans hxN); clear F4 hxd hxN
  have hways : (r1 = false) ∨ (r1 = true ∧ r3 = false) ∨ (r1 = true ∧ r3 = true ∧ r4 = true) := by
    cases r1
    · exact .inl rfl
    · cases r3
      · exact .inr (.inl ⟨rfl, rfl⟩)
      · exact .inr (.inr ⟨rfl, rfl, htr rfl rfl⟩)
  clear htr f4 n4 hp
  rcases hways with rfl | ⟨rfl, rfl⟩ | ⟨rfl, rfl, rfl⟩
  · skip
    go_upto_region 8 with (first
      | go_big_skip
      | (go_at_call 13; refine (SSame_any fs.out rfl).mono ?_; rintro e w4 ⟨rfl, hx⟩; (first | rw [q1.out] | rw [q2.out] | rw [q3.out] | rw [q4.out]); replace fs := hide_ (fs.out.ext hx); replace hX := hX.trans hx; clear hx)
      | fail)
    by_cases h1 : n < 1
    · have d1 : decide (n < 1) = true := decide_eq_true h1
      have hs := hide_ (show spr (-1) a n = [] by unfold spr; rw [show n.toNat = 0 from by omega]; split <;> rfl)
      clear h1
      go_wp2_with ((first
        | go_big_skip
        | (go_at_call 26; refine (Spread_any (to := -1) (fr := a) hn.out).mono ?_; rintro e w5 ⟨va, rfl, oa, hx⟩; rw [hs.out] at oa; replace hX := hX.trans hx; clear hx)
        | ((with_reducible refine at_bi ?_); (try refine w_yes _ _ _ rfl rfl rfl ?_); refine i_len _ rfl rfl rfl oa.ints ?_)
        | fail) <;> (try simp only [Act.put, List.setIfInBounds_toArray, List.set_cons_zero, List.set_cons_succ]))
      go_ret
      exact Keep.intro ⟨rfl, hX⟩
    have d1 : decide (n < 1) = false := decide_eq_false h1
    by_cases h2 : 7 < n
    · have d2 : decide (7 < n) = true := decide_eq_true h2
      have hs := hide_ (show spr (-1) a n = [] from if_neg (by omega))
      clear h1 h2
      go_wp2_with ((first
        | (go_at_call 26; refine (Spread_any (to := -1) (fr := a) hn.out).mono ?_; rintro e w5 ⟨va, rfl, oa, hx⟩; rw [hs.out] at oa; replace hX := hX.trans hx; clear hx)
        | ((with_reducible refine at_bi ?_); (try refine w_yes _ _ _ rfl rfl rfl ?_); refine i_len _ rfl rfl rfl oa.ints ?_)
        | fail) <;> (try simp only [Act.put, List.setIfInBounds_toArray, List.set_cons_zero, List.set_cons_succ]))
      go_ret
      exact Keep.intro ⟨rfl, hX⟩
    have d2 : decide (7 < n) = false := decide_eq_false h2
    obtain ⟨t, rfl⟩ : ∃ t : Nat, n = t := ⟨n.toNat, by omega⟩
    have ht7 : t ≤ 7 := by omega
    have hs := hide_ (show ∀ to, spr to a (t : Int) = goN to a t from fun to => by unfold spr; rw [if_pos (by omega), Int.toNat_natCast])
    clear h1 h2
    go_wp2_with ((first
      | (go_at_call 26; refine (Spread_any (to := -1) (fr := a) hn.out).mono ?_; rintro e w5 ⟨va, rfl, oa, hx⟩; rw [hs.out] at oa; replace oa := hide_ oa.ints; replace hX := hide_ (hX.trans hx); clear hx)
      | ((with_reducible refine at_lit ?_); refine w_new Try.elI (i64s []) rfl rfl rfl (i64s_cells _) rfl (by omega) ?_; intro v1 w1 hx1 o1; replace o1 : OwnI _ w1 v1 [] := o1; have hY := hx1; clear hx1)
      | fail) <;> (try simp only [Act.put, List.setIfInBounds_toArray, List.set_cons_zero, List.set_cons_succ]))
    go_loopw [12, 13] (fun vl i wr => ∃ (k : Nat), i = .int .i64 k ∧ OwnI w5.heap.size wr vl (goN (-1) a k) ∧ Ext w5 wr ∧ k ≤ t) (fun _ i _ => t - (RowKit.intOf i).toNat)
    case atStart => exact ⟨0, rfl, o1, hY, Nat.zero_le _⟩
    case round =>
      clear o1 hY
      obtain ⟨k, rfl, ho, hY, hk⟩ := hrel
      obtain ⟨v, hv⟩ : ∃ v, v = u12 := ⟨_, rfl⟩
      rw [← hv] at ho
      subst hv
      by_cases hge : t ≤ k
      · obtain rfl : k = t := by omega
        have t2 : decide ((k : Int) < (k : Int)) = false := decide_eq_false (by omega)
        have t3 : decide (k < k) = false := decide_eq_false (by omega)
        have hgl := goN_len (-1) a k
        obtain ⟨l, hl⟩ : ∃ l, goN (-1) a k = l := ⟨_, rfl⟩
        have hne := hide_ (show ∀ x ∈ l, x ≠ a from fun x hx => goN_ne (by rw [hl]; exact hx))
        rw [hl] at hgl ho oa
        replace ho := hide_ ho.ints
        replace oa := hide_ (oa.out.ext hY)
        replace hX := hX.out.trans hY
        clear hge hY hl
        go_wp2_with ((first
          | ((with_reducible refine at_bi ?_); (try refine w_yes _ _ _ rfl rfl rfl ?_); refine i_len _ rfl rfl rfl oa.out ?_)
          | fail) <;> (try simp only [Act.put, List.setIfInBounds_toArray, List.set_cons_zero, List.set_cons_succ]))
        go_loopw [84] (fun i wr => ∃ j : Nat, i = .int .i64 j ∧ j ≤ l.length ∧ Ext w wr ∧ Hid (Ints wr va l) ∧ Hid (Ints wr v l)) (fun i _ => l.length - (RowKit.intOf i).toNat)
        case atStart => exact ⟨0, rfl, Nat.zero_le _, hX, oa, ho⟩
        case round =>
          clear hX oa ho
          obtain ⟨j, rfl, hj, hX, oa, ho⟩ := hrel
          by_cases hge : l.length ≤ j
          · obtain rfl : j = l.length := by omega
            have t4 : decide (l.length < l.length) = false := by simp
            clear hge
            go_wp2_with (first
              | (go_at_call 25; refine (SameInts_any _ _ l _ oa.out ho.out).mono ?_; rintro e w7 ⟨rfl, hx⟩; replace hX := hX.trans hx; clear hx)
              | fail)
            go_ret
            exact Keep.intro ⟨rfl, hX⟩
          have hlt : j < l.length := by omega
          have t4 : decide (j < l.length) = true := decide_eq_true hlt
          have hlt' := hide_ hlt
          have hj7 : j < 7 := by omega
          obtain ⟨x, hx0⟩ : ∃ x, l[j] = x := ⟨_, rfl⟩
          have c1 : (x == a) = false := beq_eq_false_iff_ne.2 (hne.out x (hx0 ▸ List.getElem_mem hlt))
          have hxx := hide_ (show l[j]'hlt'.out = x from hx0)
          clear hge hlt hx0
          go_wp2_with ((first
            | ((with_reducible refine at_idx ?_); refine i_idx _ _ j rfl rfl rfl oa.out rfl hlt'.out ?_; intro ad had; rw [hxx.out] at had)
            | fail) <;> (try simp only [Act.put, List.setIfInBounds_toArray, List.set_cons_zero, List.set_cons_succ]))
          go_roundw
          case rel => exact ⟨j + 1, by go_num, hlt'.out, hX, oa, ho⟩
          case measure => have := hlt'.out; simp [RowKit.intOf]; omega
      have hlt : k < t := by omega
      have t2 : decide ((k : Int) < (t : Int)) = true := decide_eq_true (by omega)
      have t3 : decide (k < t) = true := decide_eq_true hlt
      have hlt' := hide_ hlt
      have hroom := hide_ (show ((goN (-1) a k).length + (goN (k : Int) a t).length) * 8 ≤ 140737488355328 from by have h1 := goN_len (-1) a k; have h2 := goN_len (k : Int) a t; omega)
      have hstep := hide_ (goN_step (fr := a) hlt)
      clear hge hlt
      go_wp2_with ((first
        | (go_at_call 26; refine (Spread_any (to := (k : Int)) (fr := a) hn.out).mono ?_; rintro e w6 ⟨v6, rfl, o6, hx⟩; rw [hs.out] at o6; replace o6 := hide_ o6.ints; replace ho := hide_ (ho.ext hx); have hs6 := hide_ (Nat.le_trans hY.size hx.size); replace hY := hide_ (hY.trans hx); clear hx)
        | ((with_reducible refine at_bi ?_); refine appi _ _ rfl rfl rfl rfl ho.out o6.out hroom.out hs6.out ?_; intro v7 w7 o7 hb7 _ _; rw [hstep.out] at o7; replace hY := hide_ (hY.out.trans' hb7); clear o6 ho hb7; replace o7 := hide_ o7)
        | fail) <;> (try simp only [Act.put, List.setIfInBounds_toArray, List.set_cons_zero, List.set_cons_succ]))
      go_roundw
      case rel => exact ⟨k + 1, by go_num, o7.out, hY.out, hlt'.out⟩
      case measure => have := hlt'.out; simp [RowKit.intOf]; omega
  · skip
    go_upto_region 8 with (first
      | go_big_skip
      | (go_at_call 13; refine (SSame_any fs.out rfl).mono ?_; rintro e w4 ⟨rfl, hx⟩; (first | rw [q1.out] | rw [q2.out] | rw [q3.out] | rw [q4.out]); replace fs := hide_ (fs.out.ext hx); replace hX := hX.trans hx; clear hx)
      | fail)
    by_cases h1 : n < 1
    · have d1 : decide (n < 1) = true := decide_eq_true h1
      have hs := hide_ (show spr (-1) a n = [] by unfold spr; rw [show n.toNat = 0 from by omega]; split <;> rfl)
      clear h1
      go_wp2_with ((first
        | go_big_skip
        | (go_at_call 26; refine (Spread_any (to := -1) (fr := a) hn.out).mono ?_; rintro e w5 ⟨va, rfl, oa, hx⟩; rw [hs.out] at oa; replace hX := hX.trans hx; clear hx)
        | ((with_reducible refine at_bi ?_); (try refine w_yes _ _ _ rfl rfl rfl ?_); refine i_len _ rfl rfl rfl oa.ints ?_)
        | fail) <;> (try simp only [Act.put, List.setIfInBounds_toArray, List.set_cons_zero, List.set_cons_succ]))
      go_ret
      exact Keep.intro ⟨rfl, hX⟩
    have d1 : decide (n < 1) = false := decide_eq_false h1
    by_cases h2 : 7 < n
    · have d2 : decide (7 < n) = true := decide_eq_true h2
      have hs := hide_ (show spr (-1) a n = [] from if_neg (by omega))
      clear h1 h2
      go_wp2_with ((first
        | (go_at_call 26; refine (Spread_any (to := -1) (fr := a) hn.out).mono ?_; rintro e w5 ⟨va, rfl, oa, hx⟩; rw [hs.out] at oa; replace hX := hX.trans hx; clear hx)
        | ((with_reducible refine at_bi ?_); (try refine w_yes _ _ _ rfl rfl rfl ?_); refine i_len _ rfl rfl rfl oa.ints ?_)
        | fail) <;> (try simp only [Act.put, List.setIfInBounds_toArray, List.set_cons_zero, List.set_cons_succ]))
      go_ret
      exact Keep.intro ⟨rfl, hX⟩
    have d2 : decide (7 < n) = false := decide_eq_false h2
    obtain ⟨t, rfl⟩ : ∃ t : Nat, n = t := ⟨n.toNat, by omega⟩
    have ht7 : t ≤ 7 := by omega
    have hs := hide_ (show ∀ to, spr to a (t : Int) = goN to a t from fun to => by unfold spr; rw [if_pos (by omega), Int.toNat_natCast])
    clear h1 h2
    go_wp2_with ((first
      | (go_at_call 26; refine (Spread_any (to := -1) (fr := a) hn.out).mono ?_; rintro e w5 ⟨va, rfl, oa, hx⟩; rw [hs.out] at oa; replace oa := hide_ oa.ints; replace hX := hide_ (hX.trans hx); clear hx)
      | ((with_reducible refine at_lit ?_); refine w_new Try.elI (i64s []) rfl rfl rfl (i64s_cells _) rfl (by omega) ?_; intro v1 w1 hx1 o1; replace o1 : OwnI _ w1 v1 [] := o1; have hY := hx1; clear hx1)
      | fail) <;> (try simp only [Act.put, List.setIfInBounds_toArray, List.set_cons_zero, List.set_cons_succ]))
    go_loopw [12, 13] (fun vl i wr => ∃ (k : Nat), i = .int .i64 k ∧ OwnI w5.heap.size wr vl (goN (-1) a k) ∧ Ext w5 wr ∧ k ≤ t) (fun _ i _ => t - (RowKit.intOf i).toNat)
    case atStart => exact ⟨0, rfl, o1, hY, Nat.zero_le _⟩
    case round =>
      clear o1 hY
      obtain ⟨k, rfl, ho, hY, hk⟩ := hrel
      obtain ⟨v, hv⟩ : ∃ v, v = u12 := ⟨_, rfl⟩
      rw [← hv] at ho
      subst hv
      by_cases hge : t ≤ k
      · obtain rfl : k = t := by omega
        have t2 : decide ((k : Int) < (k : Int)) = false := decide_eq_false (by omega)
        have t3 : decide (k < k) = false := decide_eq_false (by omega)
        have hgl := goN_len (-1) a k
        obtain ⟨l, hl⟩ : ∃ l, goN (-1) a k = l := ⟨_, rfl⟩
        have hne := hide_ (show ∀ x ∈ l, x ≠ a from fun x hx => goN_ne (by rw [hl]; exact hx))
        rw [hl] at hgl ho oa
        replace ho := hide_ ho.ints
        replace oa := hide_ (oa.out.ext hY)
        replace hX := hX.out.trans hY
        clear hge hY hl
        go_wp2_with ((first
          | ((with_reducible refine at_bi ?_); (try refine w_yes _ _ _ rfl rfl rfl ?_); refine i_len _ rfl rfl rfl oa.out ?_)
          | fail) <;> (try simp only [Act.put, List.setIfInBounds_toArray, List.set_cons_zero, List.set_cons_succ]))
        go_loopw [84] (fun i wr => ∃ j : Nat, i = .int .i64 j ∧ j ≤ l.length ∧ Ext w wr ∧ Hid (Ints wr va l) ∧ Hid (Ints wr v l)) (fun i _ => l.length - (RowKit.intOf i).toNat)
        case atStart => exact ⟨0, rfl, Nat.zero_le _, hX, oa, ho⟩
        case round =>
          clear hX oa ho
          obtain ⟨j, rfl, hj, hX, oa, ho⟩ := hrel
          by_cases hge : l.length ≤ j
          · obtain rfl : j = l.length := by omega
            have t4 : decide (l.length < l.length) = false := by simp
            clear hge
            go_wp2_with (first
              | (go_at_call 25; refine (SameInts_any _ _ l _ oa.out ho.out).mono ?_; rintro e w7 ⟨rfl, hx⟩; replace hX := hX.trans hx; clear hx)
              | fail)
            go_ret
            exact Keep.intro ⟨rfl, hX⟩
          have hlt : j < l.length := by omega
          have t4 : decide (j < l.length) = true := decide_eq_true hlt
          have hlt' := hide_ hlt
          have hj7 : j < 7 := by omega
          obtain ⟨x, hx0⟩ : ∃ x, l[j] = x := ⟨_, rfl⟩
          have c1 : (x == a) = false := beq_eq_false_iff_ne.2 (hne.out x (hx0 ▸ List.getElem_mem hlt))
          have hxx := hide_ (show l[j]'hlt'.out = x from hx0)
          clear hge hlt hx0
          go_wp2_with ((first
            | ((with_reducible refine at_idx ?_); refine i_idx _ _ j rfl rfl rfl oa.out rfl hlt'.out ?_; intro ad had; rw [hxx.out] at had)
            | fail) <;> (try simp only [Act.put, List.setIfInBounds_toArray, List.set_cons_zero, List.set_cons_succ]))
          go_roundw
          case rel => exact ⟨j + 1, by go_num, hlt'.out, hX, oa, ho⟩
          case measure => have := hlt'.out; simp [RowKit.intOf]; omega
      have hlt : k < t := by omega
      have t2 : decide ((k : Int) < (t : Int)) = true := decide_eq_true (by omega)
      have t3 : decide (k < t) = true := decide_eq_true hlt
      have hlt' := hide_ hlt
      have hroom := hide_ (show ((goN (-1) a k).length + (goN (k : Int) a t).length) * 8 ≤ 140737488355328 from by have h1 := goN_len (-1) a k; have h2 := goN_len (k : Int) a t; omega)
      have hstep := hide_ (goN_step (fr := a) hlt)
      clear hge hlt
      go_wp2_with ((first
        | (go_at_call 26; refine (Spread_any (to := (k : Int)) (fr := a) hn.out).mono ?_; rintro e w6 ⟨v6, rfl, o6, hx⟩; rw [hs.out] at o6; replace o6 := hide_ o6.ints; replace ho := hide_ (ho.ext hx); have hs6 := hide_ (Nat.le_trans hY.size hx.size); replace hY := hide_ (hY.trans hx); clear hx)
        | ((with_reducible refine at_bi ?_); refine appi _ _ rfl rfl rfl rfl ho.out o6.out hroom.out hs6.out ?_; intro v7 w7 o7 hb7 _ _; rw [hstep.out] at o7; replace hY := hide_ (hY.out.trans' hb7); clear o6 ho hb7; replace o7 := hide_ o7)
        | fail) <;> (try simp only [Act.put, List.setIfInBounds_toArray, List.set_cons_zero, List.set_cons_succ]))
      go_roundw
      case rel => exact ⟨k + 1, by go_num, o7.out, hY.out, hlt'.out⟩
      case measure => have := hlt'.out; simp [RowKit.intOf]; omega
  · skip
    go_upto_region 8 with (first
      | go_big_skip
      | (go_at_call 13; refine (SSame_any fs.out rfl).mono ?_; rintro e w4 ⟨rfl, hx⟩; (first | rw [q1.out] | rw [q2.out] | rw [q3.out] | rw [q4.out]); replace fs := hide_ (fs.out.ext hx); replace hX := hX.trans hx; clear hx)
      | fail)
    by_cases h1 : n < 1
    · have d1 : decide (n < 1) = true := decide_eq_true h1
      have hs := hide_ (show spr (-1) a n = [] by unfold spr; rw [show n.toNat = 0 from by omega]; split <;> rfl)
      clear h1
      go_wp2_with ((first
        | go_big_skip
        | (go_at_call 26; refine (Spread_any (to := -1) (fr := a) hn.out).mono ?_; rintro e w5 ⟨va, rfl, oa, hx⟩; rw [hs.out] at oa; replace hX := hX.trans hx; clear hx)
        | ((with_reducible refine at_bi ?_); (try refine w_yes _ _ _ rfl rfl rfl ?_); refine i_len _ rfl rfl rfl oa.ints ?_)
        | fail) <;> (try simp only [Act.put, List.setIfInBounds_toArray, List.set_cons_zero, List.set_cons_succ]))
      go_ret
      exact Keep.intro ⟨rfl, hX⟩
    have d1 : decide (n < 1) = false := decide_eq_false h1
    by_cases h2 : 7 < n
    · have d2 : decide (7 < n) = true := decide_eq_true h2
      have hs := hide_ (show spr (-1) a n = [] from if_neg (by omega))
      clear h1 h2
      go_wp2_with ((first
        | (go_at_call 26; refine (Spread_any (to := -1) (fr := a) hn.out).mono ?_; rintro e w5 ⟨va, rfl, oa, hx⟩; rw [hs.out] at oa; replace hX := hX.trans hx; clear hx)
        | ((with_reducible refine at_bi ?_); (try refine w_yes _ _ _ rfl rfl rfl ?_); refine i_len _ rfl rfl rfl oa.ints ?_)
        | fail) <;> (try simp only [Act.put, List.setIfInBounds_toArray, List.set_cons_zero, List.set_cons_succ]))
      go_ret
      exact Keep.intro ⟨rfl, hX⟩
    have d2 : decide (7 < n) = false := decide_eq_false h2
    obtain ⟨t, rfl⟩ : ∃ t : Nat, n = t := ⟨n.toNat, by omega⟩
    have ht7 : t ≤ 7 := by omega
    have hs := hide_ (show ∀ to, spr to a (t : Int) = goN to a t from fun to => by unfold spr; rw [if_pos (by omega), Int.toNat_natCast])
    clear h1 h2
    go_wp2_with ((first
      | (go_at_call 26; refine (Spread_any (to := -1) (fr := a) hn.out).mono ?_; rintro e w5 ⟨va, rfl, oa, hx⟩; rw [hs.out] at oa; replace oa := hide_ oa.ints; replace hX := hide_ (hX.trans hx); clear hx)
      | ((with_reducible refine at_lit ?_); refine w_new Try.elI (i64s []) rfl rfl rfl (i64s_cells _) rfl (by omega) ?_; intro v1 w1 hx1 o1; replace o1 : OwnI _ w1 v1 [] := o1; have hY := hx1; clear hx1)
      | fail) <;> (try simp only [Act.put, List.setIfInBounds_toArray, List.set_cons_zero, List.set_cons_succ]))
    go_loopw [12, 13] (fun vl i wr => ∃ (k : Nat), i = .int .i64 k ∧ OwnI w5.heap.size wr vl (goN (-1) a k) ∧ Ext w5 wr ∧ k ≤ t) (fun _ i _ => t - (RowKit.intOf i).toNat)
    case atStart => exact ⟨0, rfl, o1, hY, Nat.zero_le _⟩
    case round =>
      clear o1 hY
      obtain ⟨k, rfl, ho, hY, hk⟩ := hrel
      obtain ⟨v, hv⟩ : ∃ v, v = u12 := ⟨_, rfl⟩
      rw [← hv] at ho
      subst hv
      by_cases hge : t ≤ k
      · obtain rfl : k = t := by omega
        have t2 : decide ((k : Int) < (k : Int)) = false := decide_eq_false (by omega)
        have t3 : decide (k < k) = false := decide_eq_false (by omega)
        have hgl := goN_len (-1) a k
        obtain ⟨l, hl⟩ : ∃ l, goN (-1) a k = l := ⟨_, rfl⟩
        have hne := hide_ (show ∀ x ∈ l, x ≠ a from fun x hx => goN_ne (by rw [hl]; exact hx))
        rw [hl] at hgl ho oa
        replace ho := hide_ ho.ints
        replace oa := hide_ (oa.out.ext hY)
        replace hX := hX.out.trans hY
        clear hge hY hl
        go_wp2_with ((first
          | ((with_reducible refine at_bi ?_); (try refine w_yes _ _ _ rfl rfl rfl ?_); refine i_len _ rfl rfl rfl oa.out ?_)
          | fail) <;> (try simp only [Act.put, List.setIfInBounds_toArray, List.set_cons_zero, List.set_cons_succ]))
        go_loopw [84] (fun i wr => ∃ j : Nat, i = .int .i64 j ∧ j ≤ l.length ∧ Ext w wr ∧ Hid (Ints wr va l) ∧ Hid (Ints wr v l)) (fun i _ => l.length - (RowKit.intOf i).toNat)
        case atStart => exact ⟨0, rfl, Nat.zero_le _, hX, oa, ho⟩
        case round =>
          clear hX oa ho
          obtain ⟨j, rfl, hj, hX, oa, ho⟩ := hrel
          by_cases hge : l.length ≤ j
          · obtain rfl : j = l.length := by omega
            have t4 : decide (l.length < l.length) = false := by simp
            clear hge
            go_wp2_with (first
              | (go_at_call 25; refine (SameInts_any _ _ l _ oa.out ho.out).mono ?_; rintro e w7 ⟨rfl, hx⟩; replace hX := hX.trans hx; clear hx)
              | fail)
            go_ret
            exact Keep.intro ⟨rfl, hX⟩
          have hlt : j < l.length := by omega
          have t4 : decide (j < l.length) = true := decide_eq_true hlt
          have hlt' := hide_ hlt
          have hj7 : j < 7 := by omega
          obtain ⟨x, hx0⟩ : ∃ x, l[j] = x := ⟨_, rfl⟩
          have c1 : (x == a) = false := beq_eq_false_iff_ne.2 (hne.out x (hx0 ▸ List.getElem_mem hlt))
          have hxx := hide_ (show l[j]'hlt'.out = x from hx0)
          clear hge hlt hx0
          go_wp2_with ((first
            | ((with_reducible refine at_idx ?_); refine i_idx _ _ j rfl rfl rfl oa.out rfl hlt'.out ?_; intro ad had; rw [hxx.out] at had)
            | fail) <;> (try simp only [Act.put, List.setIfInBounds_toArray, List.set_cons_zero, List.set_cons_succ]))
          go_roundw
          case rel => exact ⟨j + 1, by go_num, hlt'.out, hX, oa, ho⟩
          case measure => have := hlt'.out; simp [RowKit.intOf]; omega
      have hlt : k < t := by omega
      have t2 : decide ((k : Int) < (t : Int)) = true := decide_eq_true (by omega)
      have t3 : decide (k < t) = true := decide_eq_true hlt
      have hlt' := hide_ hlt
      have hroom := hide_ (show ((goN (-1) a k).length + (goN (k : Int) a t).length) * 8 ≤ 140737488355328 from by have h1 := goN_len (-1) a k; have h2 := goN_len (k : Int) a t; omega)
      have hstep := hide_ (goN_step (fr := a) hlt)
      clear hge hlt
      go_wp2_with ((first
        | (go_at_call 26; refine (Spread_any (to := (k : Int)) (fr := a) hn.out).mono ?_; rintro e w6 ⟨v6, rfl, o6, hx⟩; rw [hs.out] at o6; replace o6 := hide_ o6.ints; replace ho := hide_ (ho.ext hx); have hs6 := hide_ (Nat.le_trans hY.size hx.size); replace hY := hide_ (hY.trans hx); clear hx)
        | ((with_reducible refine at_bi ?_); refine appi _ _ rfl rfl rfl rfl ho.out o6.out hroom.out hs6.out ?_; intro v7 w7 o7 hb7 _ _; rw [hstep.out] at o7; replace hY := hide_ (hY.out.trans' hb7); clear o6 ho hb7; replace o7 := hide_ o7)
        | fail) <;> (try simp only [Act.put, List.setIfInBounds_toArray, List.set_cons_zero, List.set_cons_succ]))
      go_roundw
      case rel => exact ⟨k + 1, by go_num, o7.out, hY.out, hlt'.out⟩
      case measure => have := hlt'.out; simp [RowKit.intOf]; omega

set_option maxRecDepth 100000 in
theorem netParts_lifted (os : Os) (started : os.Started) (H : Type) (enc : TypeId × Value → H) :
    ReturnsInHanded {} Try.checked os 7 .any (Rows.netPartsSpec.pre6 enc Try.prog Try.f7 Rows.netPartsRow.domain false) (Rows.netPartsSpec.post enc Try.prog Try.f7 false true false false) := by
  refine law_lifted (s := Rows.netPartsSpec) (conds := Rows.netPartsRow.domain) Try.func7 (by kernel_rfl) rfl (fun H ds h => by
      rw [show Try.f7.params.size = 3 from rfl] at h
      match ds, h with
      | [d0, d1, d2], _ => rfl) rfl rfl (by decide +kernel) os started H enc
    (ChangeSpec.witness6 (enc := enc) (C := Try.checked) false ⟨#[], #[.int .i64 0, .agg #[.int .i64 0, .int .i64 0, .int .i64 0], .int .i64 0], []⟩ 8 (by kernel_rfl) (by kernel_rfl) (by kernel_rfl) (by kernel_rfl)) ?_
  intro W base args ds p hval hA hsz _
  have hp : Try.f7.params.toList = [3, 47, 3] := rfl
  rw [hp] at hA hsz
  obtain ⟨v0, v1, v2, d0, d1, d2, p0, p1, p2, rfl, rfl, rfl, h0, h1, h2⟩ := trodAll_three hA
  obtain ⟨a0, rfl, b0, c0⟩ := arg_int (hval 0 3 v0 rfl rfl) h0
  obtain ⟨x1, y1, z1, rfl, b1, c1, d1⟩ := open_int_array3 Try.underlying47 Try.underlying3 (by kernel_rfl) (by kernel_rfl) (hval 1 47 v1 rfl rfl) h1
  simp [Lit.wf, IntKind.min, IntKind.max, IntKind.signed, IntKind.bits] at b1 c1 d1
  obtain ⟨a2, rfl, b2, c2⟩ := arg_int (hval 2 3 v2 rfl rfl) h2
  exact netParts_law a0 x1 y1 z1 a2 W (by omega)

theorem netParts_holds : Rows.NetPartsSaid :=
  OpenClaim.holds_of_wide 7 Try.f7 rfl rfl rfl rfl rfl rfl rfl ⟨rfl, rfl, rfl, rfl, rfl⟩ rfl rfl rfl rfl rfl (by kernel_rfl) Try.func7 (by kernel_rfl)
    (of_decide_eq_true (by kernel_rfl)) (by unfold Func.isWrapper; first | (rw [if_pos (by decide +kernel)]; kernel_rfl) | (rw [if_neg (by decide +kernel)]; exact ⟨rfl, rfl⟩))
    (fun os started H enc _ => netParts_lifted os started H enc)
#print axioms netParts_holds

end Go.Proofs.Ytkkbpmkeemfppaa
