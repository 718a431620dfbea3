/- The statement WireCuts: a number, or a text, cut off anywhere, isn't read. No condition. -/
import Derived.Test.YtjabedimhdhiiaaAlive
import Derived.Test.YtjabedimhdhiiaaLift
namespace Go.Proofs.Ytjabedimhdhiiaa
open Go.RowKit Go.ChangeShapes Go.WideShapes Go.ChangeAt

theorem ext_alloc_below {w w' : World} {o : Obj} (h : Below w.heap.size (w.alloc o) w') : Ext w w' := (show Below w.heap.size w (w.alloc o) from (Ext.refl w).alloc o).trans h

theorem numL_lt256 : ∀ (n : Nat), ∀ x ∈ numL n, x < 256 := by
  intro n
  induction n using Nat.strongRecOn with
  | _ n ih =>
    intro x hx
    by_cases hn : n < 128
    · rw [numL_small hn] at hx; simp at hx; omega
    · rw [numL_big (by omega)] at hx
      rcases List.mem_cons.1 hx with rfl | hx
      · omega
      · exact ih (n / 128) (by omega) x hx

/-- Two numbers with which one list begins are one. -/
theorem numL_uniq {l : List Nat} {a b : Nat} (ha : W64 a) (hb : W64 b) (h1 : numL a <+: l) (h2 : numL b <+: l) : a = b := by
  have e1 := rd_yes h1 ha
  have e2 := rd_yes h2 hb
  rw [e1] at e2
  exact congrArg Prod.fst e2

theorem rd_cut {n k : Nat} (hn : W64 n) (hk : k < (numL n).length) : (rd ((numL n).take k)).2 = 0 := by
  apply Classical.byContradiction; intro h0
  obtain ⟨h1, h2, h3⟩ := rd_some (fun x hx => numL_lt256 n x (List.mem_of_mem_take hx)) h0
  have h4 := h1.trans (List.take_prefix k (numL n))
  have he := numL_uniq h3 hn h4 (List.prefix_refl _)
  have := h1.length_le
  rw [he, List.length_take] at this
  omega

theorem rt_cut {l : List Nat} {k : Nat} (hl : ∀ x ∈ l, x < 256) (hlen : l.length ≤ 4096) (hk : k < (numL l.length ++ l).length) : ¬ RtOk ((numL l.length ++ l).take k) := by
  rintro ⟨h0, -, h5⟩
  have hm : ∀ x ∈ (numL l.length ++ l).take k, x < 256 := fun x hx => by
    rcases List.mem_append.1 (List.mem_of_mem_take hx) with h | h
    · exact numL_lt256 _ x h
    · exact hl x h
  obtain ⟨h1, h2, h3⟩ := rd_some hm h0
  have h4 := h1.trans (List.take_prefix k _)
  have he := numL_uniq h3 (W64_of (by omega)) h4 (List.prefix_append _ _)
  rw [h2, he, List.length_take] at h5
  rw [List.length_append] at hk
  rw [List.length_append] at h5
  omega

set_option maxRecDepth 100000 in
set_option maxHeartbeats 1000000 in
theorem cuts_neg (n : Nat) (c : Int) (v : Value) (l : List Nat) (W : World) (hn : W64 n) (hc : c < 0) (h : Byt W v l) :
    Calls Try.prog 10 #[.int .u64 n, v, .int .i64 c] W fun e w' => e = .returned (.bool true) ∧ Ext W w' := by
  refine calls_keep ?_
  have t1 : (decide (0 ≤ c)) = false := by simp; omega
  by_cases hb : 4096 < l.length
  · have He := hide_ (show txErr l = 11 from by rw [txErr, if_pos hb])
    have Hz := hide_ (show txL l = [] from by rw [txL, if_pos hb])
    clear hb
    go_enter Try.func10, Try.ntmps10
    go_wp2_with (first
      | (go_at_call 12; refine (alive_any _).mono ?_; rintro e w1 ⟨rfl, hx1⟩)
      | (go_at_call 14; refine (Num_any n _ hn).mono ?_; rintro e w2 ⟨v2, rfl, ho2, hx2⟩; have H2 := ho2.byt; have H := h.ext (hx1.trans hx2); clear ho2)
      | (go_at_call 21; refine (Text_any v l _ H).mono ?_; rintro e w7 ⟨v7, rfl, ho7, hx7⟩; rw [Hz.out] at ho7; have H7 := ho7.byt; clear ho7; rw [He.out])
      | (refine b_len _ rfl rfl rfl (by assumption) ?_)
      | (refine w_yes _ _ _ rfl rfl rfl ?_; refine b_len _ rfl rfl rfl (by assumption) ?_))
    go_ret
    exact Keep.intro ⟨rfl, (hx1.trans hx2).trans hx7⟩
  · have He := hide_ (show txErr l = 0 from by rw [txErr, if_neg hb])
    have Hz := hide_ (show txL l = numL l.length ++ l from by rw [txL, if_neg hb])
    clear hb
    go_enter Try.func10, Try.ntmps10
    go_wp2_with (first
      | (go_at_call 12; refine (alive_any _).mono ?_; rintro e w1 ⟨rfl, hx1⟩)
      | (go_at_call 14; refine (Num_any n _ hn).mono ?_; rintro e w2 ⟨v2, rfl, ho2, hx2⟩; have H2 := ho2.byt; have H := h.ext (hx1.trans hx2); clear ho2)
      | (go_at_call 21; refine (Text_any v l _ H).mono ?_; rintro e w7 ⟨v7, rfl, ho7, hx7⟩; rw [Hz.out] at ho7; have H7 := ho7.byt; clear ho7; rw [He.out])
      | (refine b_len _ rfl rfl rfl (by assumption) ?_)
      | (refine w_yes _ _ _ rfl rfl rfl ?_; refine b_len _ rfl rfl rfl (by assumption) ?_))
    go_ret
    exact Keep.intro ⟨rfl, (hx1.trans hx2).trans hx7⟩


set_option maxRecDepth 100000 in
set_option maxHeartbeats 2000000 in
theorem cuts_in (n k : Nat) (v : Value) (l : List Nat) (W : World) (hn : W64 n) (hA : k < (numL n).length) (h : Byt W v l) (hl : ∀ x ∈ l, x < 256) (hkm : k ≤ 9223372036854775807) :
    Calls Try.prog 10 #[.int .u64 n, v, .int .i64 k] W fun e w' => e = .returned (.bool true) ∧ Ext W w' := by
  refine calls_keep ?_
  have hm : ∀ x ∈ (numL n).take k, x < 256 := fun x hx => numL_lt256 n x (List.mem_of_mem_take hx)
  have h0 := rd_cut hn hA
  have E1 := hide_ (rd_zero h0)
  have E2 := hide_ (show rdRest ((numL n).take k) = [] from by rw [rdRest, if_pos h0])
  have E3 := hide_ (show rdErr ((numL n).take k) = 11 from by rw [rdErr, if_pos h0])
  have h10 := numL_len10 hn
  have hk1 : k ≤ (numL n).length := by omega
  have hb1 : ([] : List Nat).length + ((numL n).take k).length ≤ 140737488355328 := by simp; omega
  have hb2 : ([] ++ (numL n).take k).length ≤ 140737488355328 := by simp; omega
  have t1 : (decide (k < (numL n).length)) = true := by simpa using hA
  clear h0
  clear hA
  by_cases hb : 4096 < l.length
  · have He := hide_ (show txErr l = 11 from by rw [txErr, if_pos hb])
    have Hz := hide_ (show txL l = [] from by rw [txL, if_pos hb])
    clear hb
    go_enter Try.func10, Try.ntmps10
    go_wp2_with (first
      | (go_at_call 12; refine (alive_any _).mono ?_; rintro e w1 ⟨rfl, hx1⟩)
      | (go_at_call 14; refine (Num_any n _ hn).mono ?_; rintro e w2 ⟨v2, rfl, ho2, hx2⟩; have H2 := ho2.byt; have H := h.ext (hx1.trans hx2); clear ho2)
      | (refine b_to (.tmp 30) (.tmp 31) k rfl rfl rfl (H2.ext ((Ext.refl _).alloc _)) rfl hk1 ?_; intro v3 H3)
      | (at_builtin; refine appb (.tmp 29) (.tmp 32) rfl rfl rfl rfl own_empty H3 hb1 (by simp) ?_; intro v4 w4 ho4 hb4 hg4; have H4 := ho4.byt; have hx4 := ext_alloc_below hb4; have H5 := h.ext ((hx1.trans hx2).trans hx4); clear H ho4 hg4 hb4 H3)
      | (go_at_call 11; refine (ReadNum_any v4 _ _ hm H4 hb2).mono ?_; rintro e w5 ⟨v5, rfl, ho5, hx5⟩; rw [E2.out] at ho5; have H6 := ho5.byt; have H := H5.ext hx5; have hx3 := hx4.trans hx5; clear ho5 H5 H4; rw [E1.out, E3.out])
      | (go_at_call 21; refine (Text_any v l _ H).mono ?_; rintro e w7 ⟨v7, rfl, ho7, hx7⟩; rw [Hz.out] at ho7; have H7 := ho7.byt; clear ho7; rw [He.out])
      | (refine b_len _ rfl rfl rfl (by assumption) ?_)
      | (refine w_yes _ _ _ rfl rfl rfl ?_; refine b_len _ rfl rfl rfl (by assumption) ?_))
    go_ret
    exact Keep.intro ⟨rfl, ((hx1.trans hx2).trans hx3).trans hx7⟩
  · have He := hide_ (show txErr l = 0 from by rw [txErr, if_neg hb])
    have hzz : txL l = numL l.length ++ l := by rw [txL, if_neg hb]
    have hn2 := numL_len10 (W64_of (n := l.length) (by omega))
    obtain ⟨z, hz⟩ : ∃ z, numL l.length ++ l = z := ⟨_, rfl⟩
    have hzl : z.length = (numL l.length).length + l.length := by rw [← hz]; simp
    have Hz := hide_ (hzz.trans hz)
    by_cases hk : k < z.length
    · have hm2 : ∀ x ∈ z.take k, x < 256 := fun x hx => by
        have := List.mem_of_mem_take hx
        rw [← hz] at this
        rcases List.mem_append.1 this with h | h
        · exact numL_lt256 _ x h
        · exact hl x h
      have hno : ¬ RtOk (z.take k) := by rw [← hz]; exact rt_cut hl (by omega) (by rw [hz]; exact hk)
      have F1 := hide_ (show rtL (z.take k) = [] from by rw [rtL, if_neg hno])
      have F2 := hide_ (show rtRest (z.take k) = [] from by rw [rtRest, if_neg hno])
      have F3 := hide_ (show rtErr (z.take k) = 11 from by rw [rtErr, if_neg hno])
      have hk2 : k ≤ z.length := by omega
      have hb3 : ([] : List Nat).length + (z.take k).length ≤ 140737488355328 := by simp; omega
      have hb4 : ([] ++ z.take k).length ≤ 140737488355328 := by simp; omega
      have t2 : (decide (z.length ≤ k)) = false := by simp; omega
      clear hz hzz hno hzl hk
      go_enter Try.func10, Try.ntmps10
      go_wp2_with (first
        | (go_at_call 12; refine (alive_any _).mono ?_; rintro e w1 ⟨rfl, hx1⟩)
        | (go_at_call 14; refine (Num_any n _ hn).mono ?_; rintro e w2 ⟨v2, rfl, ho2, hx2⟩; have H2 := ho2.byt; have H := h.ext (hx1.trans hx2); clear ho2)
        | (refine b_to (.tmp 30) (.tmp 31) k rfl rfl rfl (H2.ext ((Ext.refl _).alloc _)) rfl hk1 ?_; intro v3 H3)
        | (at_builtin; refine appb (.tmp 29) (.tmp 32) rfl rfl rfl rfl own_empty H3 hb1 (by simp) ?_; intro v4 w4 ho4 hb4 hg4; have H4 := ho4.byt; have hx4 := ext_alloc_below hb4; have H5 := h.ext ((hx1.trans hx2).trans hx4); clear H ho4 hg4 hb4 H3)
        | (go_at_call 11; refine (ReadNum_any v4 _ _ hm H4 hb2).mono ?_; rintro e w5 ⟨v5, rfl, ho5, hx5⟩; rw [E2.out] at ho5; have H6 := ho5.byt; have H := H5.ext hx5; have hx3 := hx4.trans hx5; clear ho5 H5 H4; rw [E1.out, E3.out])
        | (go_at_call 21; refine (Text_any v l _ H).mono ?_; rintro e w7 ⟨v7, rfl, ho7, hx7⟩; rw [Hz.out] at ho7; have H7 := ho7.byt; clear ho7; rw [He.out])
        | (refine b_to (.tmp 68) (.tmp 69) k rfl rfl rfl (H7.ext ((Ext.refl _).alloc _)) rfl hk2 ?_; intro v8 H8)
        | (at_builtin; refine appb (.tmp 67) (.tmp 70) rfl rfl rfl rfl own_empty H8 hb3 (by simp) ?_; intro v9 w9 ho9 hb9 hg9; have H9 := ho9.byt; have hx9 := ext_alloc_below hb9; clear ho9 hg9 hb9 H8)
        | (go_at_call 23; refine (ReadText_any v9 _ _ hm2 H9 hb4).mono ?_; rintro e w10 ⟨v10, v11, rfl, H10, H11, hx10⟩; rw [F1.out] at H10; rw [F2.out] at H11; rw [F3.out])
        | (refine b_len _ rfl rfl rfl (by assumption) ?_)
        | (refine w_yes _ _ _ rfl rfl rfl ?_; refine b_len _ rfl rfl rfl (by assumption) ?_))
      go_ret
      exact Keep.intro ⟨rfl, ((((hx1.trans hx2).trans hx3).trans hx7).trans hx9).trans hx10⟩
    · have t2 : (decide (z.length ≤ k)) = true := by simp; omega
      clear hz hzz hzl hk
      go_enter Try.func10, Try.ntmps10
      go_wp2_with (first
        | (go_at_call 12; refine (alive_any _).mono ?_; rintro e w1 ⟨rfl, hx1⟩)
        | (go_at_call 14; refine (Num_any n _ hn).mono ?_; rintro e w2 ⟨v2, rfl, ho2, hx2⟩; have H2 := ho2.byt; have H := h.ext (hx1.trans hx2); clear ho2)
        | (refine b_to (.tmp 30) (.tmp 31) k rfl rfl rfl (H2.ext ((Ext.refl _).alloc _)) rfl hk1 ?_; intro v3 H3)
        | (at_builtin; refine appb (.tmp 29) (.tmp 32) rfl rfl rfl rfl own_empty H3 hb1 (by simp) ?_; intro v4 w4 ho4 hb4 hg4; have H4 := ho4.byt; have hx4 := ext_alloc_below hb4; have H5 := h.ext ((hx1.trans hx2).trans hx4); clear H ho4 hg4 hb4 H3)
        | (go_at_call 11; refine (ReadNum_any v4 _ _ hm H4 hb2).mono ?_; rintro e w5 ⟨v5, rfl, ho5, hx5⟩; rw [E2.out] at ho5; have H6 := ho5.byt; have H := H5.ext hx5; have hx3 := hx4.trans hx5; clear ho5 H5 H4; rw [E1.out, E3.out])
        | (go_at_call 21; refine (Text_any v l _ H).mono ?_; rintro e w7 ⟨v7, rfl, ho7, hx7⟩; rw [Hz.out] at ho7; have H7 := ho7.byt; clear ho7; rw [He.out])
        | (refine b_len _ rfl rfl rfl (by assumption) ?_)
        | (refine w_yes _ _ _ rfl rfl rfl ?_; refine b_len _ rfl rfl rfl (by assumption) ?_))
      go_ret
      exact Keep.intro ⟨rfl, ((hx1.trans hx2).trans hx3).trans hx7⟩

set_option maxRecDepth 100000 in
set_option maxHeartbeats 2000000 in
theorem cuts_out (n k : Nat) (v : Value) (l : List Nat) (W : World) (hn : W64 n) (hA : ¬ k < (numL n).length) (h : Byt W v l) (hl : ∀ x ∈ l, x < 256) (hkm : k ≤ 9223372036854775807) :
    Calls Try.prog 10 #[.int .u64 n, v, .int .i64 k] W fun e w' => e = .returned (.bool true) ∧ Ext W w' := by
  refine calls_keep ?_
  have t1 : (decide (k < (numL n).length)) = false := by simpa using hA
  clear hA
  by_cases hb : 4096 < l.length
  · have He := hide_ (show txErr l = 11 from by rw [txErr, if_pos hb])
    have Hz := hide_ (show txL l = [] from by rw [txL, if_pos hb])
    clear hb
    go_enter Try.func10, Try.ntmps10
    go_wp2_with (first
      | (go_at_call 12; refine (alive_any _).mono ?_; rintro e w1 ⟨rfl, hx1⟩)
      | (go_at_call 14; refine (Num_any n _ hn).mono ?_; rintro e w2 ⟨v2, rfl, ho2, hx2⟩; have H2 := ho2.byt; have H := h.ext (hx1.trans hx2); clear ho2)
      | (go_at_call 21; refine (Text_any v l _ H).mono ?_; rintro e w7 ⟨v7, rfl, ho7, hx7⟩; rw [Hz.out] at ho7; have H7 := ho7.byt; clear ho7; rw [He.out])
      | (refine b_len _ rfl rfl rfl (by assumption) ?_)
      | (refine w_yes _ _ _ rfl rfl rfl ?_; refine b_len _ rfl rfl rfl (by assumption) ?_))
    go_ret
    exact Keep.intro ⟨rfl, (hx1.trans hx2).trans hx7⟩
  · have He := hide_ (show txErr l = 0 from by rw [txErr, if_neg hb])
    have hzz : txL l = numL l.length ++ l := by rw [txL, if_neg hb]
    have hn2 := numL_len10 (W64_of (n := l.length) (by omega))
    obtain ⟨z, hz⟩ : ∃ z, numL l.length ++ l = z := ⟨_, rfl⟩
    have hzl : z.length = (numL l.length).length + l.length := by rw [← hz]; simp
    have Hz := hide_ (hzz.trans hz)
    by_cases hk : k < z.length
    · have hm2 : ∀ x ∈ z.take k, x < 256 := fun x hx => by
        have := List.mem_of_mem_take hx
        rw [← hz] at this
        rcases List.mem_append.1 this with h | h
        · exact numL_lt256 _ x h
        · exact hl x h
      have hno : ¬ RtOk (z.take k) := by rw [← hz]; exact rt_cut hl (by omega) (by rw [hz]; exact hk)
      have F1 := hide_ (show rtL (z.take k) = [] from by rw [rtL, if_neg hno])
      have F2 := hide_ (show rtRest (z.take k) = [] from by rw [rtRest, if_neg hno])
      have F3 := hide_ (show rtErr (z.take k) = 11 from by rw [rtErr, if_neg hno])
      have hk2 : k ≤ z.length := by omega
      have hb3 : ([] : List Nat).length + (z.take k).length ≤ 140737488355328 := by simp; omega
      have hb4 : ([] ++ z.take k).length ≤ 140737488355328 := by simp; omega
      have t2 : (decide (z.length ≤ k)) = false := by simp; omega
      clear hz hzz hno hzl hk
      go_enter Try.func10, Try.ntmps10
      go_wp2_with (first
        | (go_at_call 12; refine (alive_any _).mono ?_; rintro e w1 ⟨rfl, hx1⟩)
        | (go_at_call 14; refine (Num_any n _ hn).mono ?_; rintro e w2 ⟨v2, rfl, ho2, hx2⟩; have H2 := ho2.byt; have H := h.ext (hx1.trans hx2); clear ho2)
        | (go_at_call 21; refine (Text_any v l _ H).mono ?_; rintro e w7 ⟨v7, rfl, ho7, hx7⟩; rw [Hz.out] at ho7; have H7 := ho7.byt; clear ho7; rw [He.out])
        | (refine b_to (.tmp 68) (.tmp 69) k rfl rfl rfl (H7.ext ((Ext.refl _).alloc _)) rfl hk2 ?_; intro v8 H8)
        | (at_builtin; refine appb (.tmp 67) (.tmp 70) rfl rfl rfl rfl own_empty H8 hb3 (by simp) ?_; intro v9 w9 ho9 hb9 hg9; have H9 := ho9.byt; have hx9 := ext_alloc_below hb9; clear ho9 hg9 hb9 H8)
        | (go_at_call 23; refine (ReadText_any v9 _ _ hm2 H9 hb4).mono ?_; rintro e w10 ⟨v10, v11, rfl, H10, H11, hx10⟩; rw [F1.out] at H10; rw [F2.out] at H11; rw [F3.out])
        | (refine b_len _ rfl rfl rfl (by assumption) ?_)
        | (refine w_yes _ _ _ rfl rfl rfl ?_; refine b_len _ rfl rfl rfl (by assumption) ?_))
      go_ret
      exact Keep.intro ⟨rfl, (((hx1.trans hx2).trans hx7).trans hx9).trans hx10⟩
    · have t2 : (decide (z.length ≤ k)) = true := by simp; omega
      clear hz hzz hzl hk
      go_enter Try.func10, Try.ntmps10
      go_wp2_with (first
        | (go_at_call 12; refine (alive_any _).mono ?_; rintro e w1 ⟨rfl, hx1⟩)
        | (go_at_call 14; refine (Num_any n _ hn).mono ?_; rintro e w2 ⟨v2, rfl, ho2, hx2⟩; have H2 := ho2.byt; have H := h.ext (hx1.trans hx2); clear ho2)
        | (go_at_call 21; refine (Text_any v l _ H).mono ?_; rintro e w7 ⟨v7, rfl, ho7, hx7⟩; rw [Hz.out] at ho7; have H7 := ho7.byt; clear ho7; rw [He.out])
        | (refine b_len _ rfl rfl rfl (by assumption) ?_)
        | (refine w_yes _ _ _ rfl rfl rfl ?_; refine b_len _ rfl rfl rfl (by assumption) ?_))
      go_ret
      exact Keep.intro ⟨rfl, (hx1.trans hx2).trans hx7⟩

theorem cuts_law (n : Nat) (c : Int) (v : Value) (l : List Nat) (W : World) (hn : W64 n) (hc0 : -9223372036854775808 ≤ c) (hc1 : c ≤ 9223372036854775807) (h : Byt W v l) (hl : ∀ x ∈ l, x < 256) (_hlen : l.length ≤ 140737488355328) :
    Calls Try.prog 10 #[.int .u64 n, v, .int .i64 c] W fun e w' => e = .returned (.bool true) ∧ Ext W w' := by
  by_cases hneg : c < 0
  · exact cuts_neg n c v l W hn hneg h
  · obtain ⟨k, rfl⟩ := Int.eq_ofNat_of_zero_le (show 0 ≤ c by omega)
    by_cases hA : k < (numL n).length
    · exact cuts_in n k v l W hn hA h hl (by omega)
    · exact cuts_out n k v l W hn hA h hl (by omega)

set_option maxRecDepth 100000 in
theorem cuts_lifted (os : Os) (started : os.Started) (H : Type) (enc : TypeId × Value → H) :
    ReturnsInHanded {} Try.checked os 10 .any (Rows.wireCutsSpec.pre6 enc Try.prog Try.f10 Rows.wireCutsRow.domain false) (Rows.wireCutsSpec.post enc Try.prog Try.f10 false true false false) := by
  refine law_lifted (s := Rows.wireCutsSpec) (conds := Rows.wireCutsRow.domain) Try.func10 (by kernel_rfl) rfl (fun H ds h => by
      rw [show Try.f10.params.size = 3 from rfl] at h
      match ds, h with
      | [d0, d1, d2], _ => rfl) rfl rfl (by decide +kernel) os started H enc
    (ChangeSpec.witness6 (enc := enc) (C := Try.checked) false ⟨#[], #[.int .u64 0, .slice none 0 0, .int .i64 0], []⟩ 8 (by kernel_rfl) (by kernel_rfl) (by kernel_rfl) (by kernel_rfl)) ?_
  intro W base args ds p hval hA hsz _
  have hp : Try.f10.params.toList = [22, 23, 3] := rfl
  rw [hp] at hA hsz
  obtain ⟨v0, v1, v2, d0, d1, d2, p0, p1, p2, rfl, rfl, rfl, h0, h1, h2⟩ := trodAll_three hA
  obtain ⟨a0, rfl, b0⟩ := arg_u64 (hval 0 22 v0 rfl rfl) h0
  obtain ⟨l1, a1, b1, c1⟩ := arg_bytes hsz (j := 1) rfl rfl (hval 1 23 v1 rfl rfl) h1
  obtain ⟨a2, rfl, b2, c2⟩ := arg_int (hval 2 3 v2 rfl rfl) h2
  exact cuts_law a0 a2 v1 l1 W b0 b2 c2 a1 b1 (by omega)

theorem cuts_holds : Rows.WireCutsSaid :=
  OpenClaim.holds_of_wide 10 Try.f10 rfl rfl rfl rfl rfl rfl rfl ⟨rfl, rfl, rfl, rfl, rfl⟩ rfl rfl rfl rfl rfl (by kernel_rfl) Try.func10 (by kernel_rfl)
    (of_decide_eq_true (by kernel_rfl)) (by unfold Func.isWrapper; first | (rw [if_pos (by decide +kernel)]; kernel_rfl) | (rw [if_neg (by decide +kernel)]; exact ⟨rfl, rfl⟩))
    (fun os started H enc _ => cuts_lifted os started H enc)
#print axioms cuts_holds

end Go.Proofs.Ytjabedimhdhiiaa
