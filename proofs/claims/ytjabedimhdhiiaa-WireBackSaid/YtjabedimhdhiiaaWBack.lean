/- The statement WireBack: numbers and texts are read as they were written, with whatever is behind them. No condition. -/
import Derived.Test.YtjabedimhdhiiaaWLists
import Derived.Test.YtjabedimhdhiiaaWOnce
import Derived.Test.YtjabedimhdhiiaaRefText
namespace Go.Proofs.Ytjabedimhdhiiaa
open Go.RowKit Go.ChangeShapes Go.WideShapes Go.ChangeAt

def sml (l : List Int) : Bool := l.all fun x => decide (x ≤ 4611686018427387904)
theorem sml_snoc (l : List Int) (x : Int) : sml (l ++ [x]) = (sml l && decide (x ≤ 4611686018427387904)) := by simp [sml]

theorem rd_app {n : Nat} (hn : W64 n) (t : List Nat) : rd (numL n ++ t) = (n, (numL n).length) := rd_yes (List.prefix_append _ _) hn
theorem rd2_ne {n : Nat} (hn : W64 n) (t : List Nat) : (rd (numL n ++ t)).2 ≠ 0 := by
  rw [rd_app hn]; show (numL n).length ≠ 0; have := numL_pos n; omega
theorem rdRest_app {n : Nat} (hn : W64 n) (t : List Nat) : rdRest (numL n ++ t) = t := by
  rw [rdRest, if_neg (rd2_ne hn t), rd_app hn]; simp
theorem rdErr_app {n : Nat} (hn : W64 n) (t : List Nat) : rdErr (numL n ++ t) = 0 := by
  rw [rdErr, if_neg (rd2_ne hn t)]
theorem nuL_lt : ∀ l : List Int, ∀ x ∈ nuL l, x < 256
  | [], x, h => by simp [nuL] at h
  | y :: r, x, h => by
    rw [nuL] at h
    rcases List.mem_append.1 h with h | h
    · exact numL_lt256 _ x h
    · exact nuL_lt r x h
theorem rns_nuL : ∀ (l : List Int) (t : List Nat), (∀ x ∈ l, -1 ≤ x ∧ x ≤ 9223372036854775807) → rns l.length (nuL l ++ t) = if sml l then some (l, t) else none
  | [], t, _ => by simp [rns, nuL, sml]
  | x :: r, t, h => by
    obtain ⟨h1, h2⟩ := h x (List.mem_cons_self ..)
    have hw : W64 (x + 1).toNat := by unfold W64; omega
    have ih := rns_nuL r t fun y hy => h y (List.mem_cons_of_mem _ hy)
    have hp := numL_pos (x + 1).toNat
    rw [List.length_cons, nuL, List.append_assoc]
    by_cases hx : x ≤ 4611686018427387904
    · rw [rns_step (rd2_ne hw _) (by rw [rd_app hw]; simp; omega), rdRest_app hw, ih, rd_app hw]
      by_cases hs : sml r = true
      · have : sml (x :: r) = true := by simp only [sml, List.all_cons] at hs ⊢; simp [hx, hs]
        rw [if_pos hs, if_pos this]
        simp; omega
      · have : ¬ sml (x :: r) = true := by simp only [sml, List.all_cons] at hs ⊢; simp [hx]; simpa using hs
        rw [if_neg hs, if_neg this]; rfl
    · rw [rns_none (.inr (by rw [rd_app hw]; simp; omega)), if_neg (by simp [sml]; omega)]
theorem rt_back {t : List Nat} (ht : t.length ≤ 4096) : RtOk (txL t ++ [7]) ∧ rtL (txL t ++ [7]) = t ∧ rtRest (txL t ++ [7]) = [7] := by
  have hx : txL t ++ [7] = numL t.length ++ (t ++ [7]) := by rw [txL, if_neg (by omega), List.append_assoc]
  have hw : W64 t.length := W64_of (by omega)
  have hr := rd_app hw (t ++ [7])
  have hp := numL_pos t.length
  have hok : RtOk (txL t ++ [7]) := by rw [hx]; exact ⟨rd2_ne hw _, by rw [hr]; exact ht, by rw [hr]; simp⟩
  obtain ⟨h1, h2⟩ := rt_alt hok
  refine ⟨hok, ?_, ?_⟩
  · rw [h1, hx, rdRest_app hw, hr]; simp
  · rw [h2, hx, rdRest_app hw, hr]; simp
theorem txL_lt {t : List Nat} (ht : ∀ x ∈ t, x < 256) : ∀ x ∈ txL t ++ [7], x < 256 := by
  intro x hx
  rcases List.mem_append.1 hx with hx | hx
  · rw [txL] at hx
    split at hx
    · simp at hx
    · rcases List.mem_append.1 hx with hx | hx
      · exact numL_lt256 _ x hx
      · exact ht x hx
  · simp at hx; omega
theorem strN_7 : strN [7] = { data := #[7] } := rfl

set_option maxRecDepth 100000 in
set_option maxHeartbeats 800000 in
theorem back_early (n : Nat) (vn vt : Value) (l : List Int) (t : List Nat) (W : World) (hN : Ints W vn l) (hT : Byt W vt t) (hE : 5000 < t.length ∨ 100 < l.length) :
    Calls Try.prog 7 #[.int .u64 n, vn, vt] W fun e w' => e = .returned (.bool true) ∧ Ext W w' := by
  refine calls_keep ?_
  by_cases h5 : 5000 < t.length
  · have t1 : (decide ((5000 : Int) < (t.length : Int))) = true := by simp; omega
    clear hE h5
    go_enter Try.func7, Try.ntmps7
    go_wp2_with (first
      | (go_at_call 12; refine (alive_any _).mono ?_; rintro e w1 ⟨rfl, hx1⟩; have HT := hT.ext hx1; have HN := hN.ext hx1)
      | (refine b_len _ rfl rfl rfl HT ?_))
    go_ret
    exact Keep.intro ⟨rfl, hx1⟩
  · have t1 : (decide ((5000 : Int) < (t.length : Int))) = false := by simp; omega
    have t2 : (decide ((100 : Int) < (l.length : Int))) = true := by simp; omega
    clear hE h5
    go_enter Try.func7, Try.ntmps7
    go_wp2_with (first
      | (go_at_call 12; refine (alive_any _).mono ?_; rintro e w1 ⟨rfl, hx1⟩; have HT := hT.ext hx1; have HN := hN.ext hx1)
      | (refine b_len _ rfl rfl rfl HT ?_)
      | (refine w_yes _ _ _ rfl rfl rfl ?_; refine i_len _ rfl rfl rfl HN ?_))
    go_ret
    exact Keep.intro ⟨rfl, hx1⟩

set_option maxRecDepth 100000 in
set_option maxHeartbeats 3000000 in
theorem back_bad_yes (n : Nat) (vn vt : Value) (l : List Int) (t : List Nat) (W : World) (hw : W64 n) (hI : I64s l) (hN : Ints W vn l) (hT : Byt W vt t) (ht : ∀ x ∈ t, x < 256) (h5 : t.length ≤ 5000) (h1 : l.length ≤ 100) (hA : ¬ NuOk l) (hP : t.length ≤ 4096) :
    Calls Try.prog 7 #[.int .u64 n, vn, vt] W fun e w' => e = .returned (.bool true) ∧ Ext W w' := by
  refine calls_keep ?_
  have t1 : (decide ((5000 : Int) < (t.length : Int))) = false := by simp; omega
  have t2 : (decide ((100 : Int) < (l.length : Int))) = false := by simp; omega
  have h10 := numL_len10 hw
  have hbt : (numL n).length + t.length ≤ 140737488355328 := by omega
  have hm1 : ∀ x ∈ numL n ++ t, x < 256 := fun x hx => by
    rcases List.mem_append.1 hx with hx | hx
    · exact numL_lt256 _ x hx
    · exact ht x hx
  have hl1 : (numL n ++ t).length ≤ 140737488355328 := by simp; omega
  have E1 := hide_ (show (rd (numL n ++ t)).1 = n from by rw [rd_app hw])
  have E2 := hide_ (rdErr_app hw t)
  have E3 := hide_ (rdRest_app hw t)
  have HI := hide_ hI
  have N1 := hide_ (show nuErr l = 11 from by rw [nuErr, if_neg hA])
  have N2 := hide_ (show nuB l = [] from by rw [nuB, if_neg hA])
  obtain ⟨hr0, hr1, hr2⟩ := rt_back hP
  have R1 := hide_ hr1
  have R2 := hide_ hr2
  have R3 := hide_ (show rtErr (txL t ++ [7]) = 0 from by rw [rtErr, if_pos hr0])
  have T1 := hide_ (show txErr t = 0 from by rw [txErr, if_neg (by omega)])
  have ts : (decide ((t.length : Int) ≤ 4096)) = true := by simp; omega
  have h7 := strN_7
  clear hr0 hr1 hr2
  have htx : (txL t).length ≤ 6000 := by
    rw [txL]; split
    · simp
    · have := numL_len10 (W64_of (n := t.length) (by omega)); simp; omega
  have hbY : ([] : List Nat).length + (txL t).length ≤ 140737488355328 := by simp; omega
  have hbZ : ([] ++ txL t).length + 1 ≤ 140737488355328 := by simp; omega
  have hmZ := txL_lt ht
  have hlZ : (txL t ++ [7]).length ≤ 140737488355328 := by simp; omega
  clear hI hA hP h5 h10 htx
  go_enter Try.func7, Try.ntmps7
  go_wp2_with (first
    | (go_at_call 12; refine (alive_any _).mono ?_; rintro e w1 ⟨rfl, hx1⟩; have HT1 := hT.ext hx1; have HN1 := hN.ext hx1)
    | (refine b_len (.tmp 25) rfl rfl (v := vt) rfl HT1 ?_)
    | (refine w_yes _ _ _ rfl rfl rfl ?_; refine i_len (.tmp 29) rfl rfl (v := vn) rfl HN1 ?_)
    | (go_at_call 14; refine (Num_any n _ hw).mono ?_; rintro e w2 ⟨v2, rfl, ho2, hx2⟩; have HT2 := HT1.ext hx2)
    | (at_builtin; refine appb (.tmp 35) (.tmp 36) rfl rfl rfl rfl ho2 HT2 hbt hx2.size ?_; intro v3 w3 ho3 hb3 hg3; have H3 := ho3.byt; have hx3 : Ext w1 w3 := (show Below _ _ _ from hx2).trans hb3; clear ho2 ho3 hg3 hb3 HT2 HN1)
    | (go_at_call 11; refine (ReadNum_any v3 (numL n ++ t) _ hm1 H3 hl1).mono ?_; rintro e w4 ⟨v4, rfl, ho4, hx4⟩; rw [E3.out] at ho4; have H4 := ho4.byt; have hX4 := (hx1.trans hx3).trans hx4; have HT4 := hT.ext hX4; have HN4 := hN.ext hX4; clear ho4 H3; rw [E1.out, E2.out])
    | (refine w_yes _ _ _ rfl rfl rfl ?_; refine w_str _ rfl rfl rfl (by assumption) ?_)
    | (go_at_call 16; refine (Nums_any vn l _ HI.out HN4).mono ?_; rintro e w5 ⟨v5, rfl, ho5, hx5⟩; rw [N2.out] at ho5; have H5 := ho5.byt; have hXt := hX4.trans hx5; clear ho5 HN4 H4 HT4; rw [N1.out])
    | (go_at_call 21; refine (Text_any vt t _ (hT.ext hXt)).mono ?_; rintro e wT ⟨vy, rfl, hoY, hxT⟩; have HY := hoY.byt; have hX10 := hXt.trans hxT; have HT10 := hT.ext hX10; clear hoY; rw [T1.out])
    | (refine b_len (.tmp 115) rfl rfl (v := vt) rfl HT10 ?_)
    | (at_builtin; refine appb (.tmp 120) (.tmp 121) rfl rfl rfl rfl own_empty (HY.ext ((Ext.refl _).alloc _)) hbY (by simp) ?_; intro vA wA hoA hbA hgA)
    | (at_builtin; refine appb (.tmp 122) (.tmp 123) rfl rfl rfl rfl (hoA.ext ((Ext.refl _).alloc _)) (byt_one (n := 7) rfl) hbZ (by have := hbA.size; simp at this ⊢; omega) ?_; intro vB wB hoB hbB hgB; have HB : Byt wB vB (txL t ++ [7]) := hoB.byt; have hxB : Ext wT wB := (show Below _ _ _ from ext_alloc_below hbA).trans (((Below.refl _ _).alloc (ext_alloc_below hbA).size _).trans hbB); clear hoA hoB hgA hgB hbA hbB HT10 HY)
    | (go_at_call 23; refine (ReadText_any vB (txL t ++ [7]) _ hmZ HB hlZ).mono ?_; rintro e wR ⟨vZ, vL, rfl, HZ, HL, hxR⟩; have hX11 := (hX10.trans hxB).trans hxR; have HT11 := hT.ext hX11; clear HB; rw [R1.out] at HZ; rw [R2.out] at HL; rw [R3.out]))
  go_ret
  exact Keep.intro ⟨rfl, hX11⟩

set_option maxRecDepth 100000 in
set_option maxHeartbeats 3000000 in
theorem back_bad_no (n : Nat) (vn vt : Value) (l : List Int) (t : List Nat) (W : World) (hw : W64 n) (hI : I64s l) (hN : Ints W vn l) (hT : Byt W vt t) (ht : ∀ x ∈ t, x < 256) (h5 : t.length ≤ 5000) (h1 : l.length ≤ 100) (hA : ¬ NuOk l) (hP : ¬ t.length ≤ 4096) :
    Calls Try.prog 7 #[.int .u64 n, vn, vt] W fun e w' => e = .returned (.bool true) ∧ Ext W w' := by
  refine calls_keep ?_
  have t1 : (decide ((5000 : Int) < (t.length : Int))) = false := by simp; omega
  have t2 : (decide ((100 : Int) < (l.length : Int))) = false := by simp; omega
  have h10 := numL_len10 hw
  have hbt : (numL n).length + t.length ≤ 140737488355328 := by omega
  have hm1 : ∀ x ∈ numL n ++ t, x < 256 := fun x hx => by
    rcases List.mem_append.1 hx with hx | hx
    · exact numL_lt256 _ x hx
    · exact ht x hx
  have hl1 : (numL n ++ t).length ≤ 140737488355328 := by simp; omega
  have E1 := hide_ (show (rd (numL n ++ t)).1 = n from by rw [rd_app hw])
  have E2 := hide_ (rdErr_app hw t)
  have E3 := hide_ (rdRest_app hw t)
  have HI := hide_ hI
  have N1 := hide_ (show nuErr l = 11 from by rw [nuErr, if_neg hA])
  have N2 := hide_ (show nuB l = [] from by rw [nuB, if_neg hA])
  have T1 := hide_ (show txErr t = 11 from by rw [txErr, if_pos (by omega)])
  have ts : (decide ((t.length : Int) ≤ 4096)) = false := by simp; omega
  have htx : (txL t).length ≤ 6000 := by
    rw [txL]; split
    · simp
    · have := numL_len10 (W64_of (n := t.length) (by omega)); simp; omega
  have hbY : ([] : List Nat).length + (txL t).length ≤ 140737488355328 := by simp; omega
  have hbZ : ([] ++ txL t).length + 1 ≤ 140737488355328 := by simp; omega
  have hmZ := txL_lt ht
  have hlZ : (txL t ++ [7]).length ≤ 140737488355328 := by simp; omega
  clear hI hA hP h5 h10 htx
  go_enter Try.func7, Try.ntmps7
  go_wp2_with (first
    | (go_at_call 12; refine (alive_any _).mono ?_; rintro e w1 ⟨rfl, hx1⟩; have HT1 := hT.ext hx1; have HN1 := hN.ext hx1)
    | (refine b_len (.tmp 25) rfl rfl (v := vt) rfl HT1 ?_)
    | (refine w_yes _ _ _ rfl rfl rfl ?_; refine i_len (.tmp 29) rfl rfl (v := vn) rfl HN1 ?_)
    | (go_at_call 14; refine (Num_any n _ hw).mono ?_; rintro e w2 ⟨v2, rfl, ho2, hx2⟩; have HT2 := HT1.ext hx2)
    | (at_builtin; refine appb (.tmp 35) (.tmp 36) rfl rfl rfl rfl ho2 HT2 hbt hx2.size ?_; intro v3 w3 ho3 hb3 hg3; have H3 := ho3.byt; have hx3 : Ext w1 w3 := (show Below _ _ _ from hx2).trans hb3; clear ho2 ho3 hg3 hb3 HT2 HN1)
    | (go_at_call 11; refine (ReadNum_any v3 (numL n ++ t) _ hm1 H3 hl1).mono ?_; rintro e w4 ⟨v4, rfl, ho4, hx4⟩; rw [E3.out] at ho4; have H4 := ho4.byt; have hX4 := (hx1.trans hx3).trans hx4; have HT4 := hT.ext hX4; have HN4 := hN.ext hX4; clear ho4 H3; rw [E1.out, E2.out])
    | (refine w_yes _ _ _ rfl rfl rfl ?_; refine w_str _ rfl rfl rfl (by assumption) ?_)
    | (go_at_call 16; refine (Nums_any vn l _ HI.out HN4).mono ?_; rintro e w5 ⟨v5, rfl, ho5, hx5⟩; rw [N2.out] at ho5; have H5 := ho5.byt; have hXt := hX4.trans hx5; clear ho5 HN4 H4 HT4; rw [N1.out])
    | (go_at_call 21; refine (Text_any vt t _ (hT.ext hXt)).mono ?_; rintro e wT ⟨vy, rfl, hoY, hxT⟩; have HY := hoY.byt; have hX10 := hXt.trans hxT; have HT10 := hT.ext hX10; clear hoY; rw [T1.out])
    | (refine b_len (.tmp 115) rfl rfl (v := vt) rfl HT10 ?_)
    | (at_builtin; refine appb (.tmp 120) (.tmp 121) rfl rfl rfl rfl own_empty (HY.ext ((Ext.refl _).alloc _)) hbY (by simp) ?_; intro vA wA hoA hbA hgA)
    | (at_builtin; refine appb (.tmp 122) (.tmp 123) rfl rfl rfl rfl (hoA.ext ((Ext.refl _).alloc _)) (byt_one (n := 7) rfl) hbZ (by have := hbA.size; simp at this ⊢; omega) ?_; intro vB wB hoB hbB hgB; have HB : Byt wB vB (txL t ++ [7]) := hoB.byt; have hxB : Ext wT wB := (show Below _ _ _ from ext_alloc_below hbA).trans (((Below.refl _ _).alloc (ext_alloc_below hbA).size _).trans hbB); clear hoA hoB hgA hgB hbA hbB HT10 HY)
    | (go_at_call 23; refine (ReadText_any vB (txL t ++ [7]) _ hmZ HB hlZ).mono ?_; rintro e wR ⟨vZ, vL, rfl, HZ, HL, hxR⟩; have hX11 := (hX10.trans hxB).trans hxR; have HT11 := hT.ext hX11; clear HB))
  go_ret
  exact Keep.intro ⟨rfl, hX11⟩

set_option maxRecDepth 100000 in
set_option maxHeartbeats 3000000 in
theorem back_small_yes (n : Nat) (vn vt : Value) (l : List Int) (t : List Nat) (W : World) (hw : W64 n) (hI : I64s l) (hN : Ints W vn l) (hT : Byt W vt t) (ht : ∀ x ∈ t, x < 256) (h5 : t.length ≤ 5000) (h1 : l.length ≤ 100) (hA : NuOk l) (hS : sml l = true) (hP : t.length ≤ 4096) :
    Calls Try.prog 7 #[.int .u64 n, vn, vt] W fun e w' => e = .returned (.bool true) ∧ Ext W w' := by
  refine calls_keep ?_
  have t1 : (decide ((5000 : Int) < (t.length : Int))) = false := by simp; omega
  have t2 : (decide ((100 : Int) < (l.length : Int))) = false := by simp; omega
  have h10 := numL_len10 hw
  have hbt : (numL n).length + t.length ≤ 140737488355328 := by omega
  have hm1 : ∀ x ∈ numL n ++ t, x < 256 := fun x hx => by
    rcases List.mem_append.1 hx with hx | hx
    · exact numL_lt256 _ x hx
    · exact ht x hx
  have hl1 : (numL n ++ t).length ≤ 140737488355328 := by simp; omega
  have E1 := hide_ (show (rd (numL n ++ t)).1 = n from by rw [rd_app hw])
  have E2 := hide_ (rdErr_app hw t)
  have E3 := hide_ (rdRest_app hw t)
  have HI := hide_ hI
  have N1 := hide_ (show nuErr l = 0 from by rw [nuErr, if_pos hA])
  have N2 := hide_ (show nuB l = nuL l from by rw [nuB, if_pos hA])
  have hnl := nuL_len l (fun x hx => (hI x hx).2)
  have hbN : ([] : List Nat).length + (nuL l).length ≤ 140737488355328 := by simp; omega
  have hbM : ([] ++ nuL l).length + t.length ≤ 140737488355328 := by simp; omega
  have hm2 : ∀ x ∈ nuL l ++ t, x < 256 := fun x hx => by
    rcases List.mem_append.1 hx with hx | hx
    · exact nuL_lt l x hx
    · exact ht x hx
  have hl2 : (nuL l ++ t).length ≤ 140737488355328 := by simp; omega
  have hrn : rnO (l.length : Int) (nuL l ++ t) = if sml l then some (l, t) else none := by
    rw [rnO, if_neg (by have := hA.1; omega), Int.toNat_natCast]
    exact rns_nuL l t (fun x hx => ⟨hA.2 x hx, (hI x hx).2⟩)
  rw [hS] at hrn
  have S1 := hide_ hrn
  have S3 := hide_ (show rnE (rnO (l.length : Int) (nuL l ++ t)) = 0 from by rw [hrn]; rfl)
  have HS := hide_ hS
  clear hrn hnl
  obtain ⟨hr0, hr1, hr2⟩ := rt_back hP
  have R1 := hide_ hr1
  have R2 := hide_ hr2
  have R3 := hide_ (show rtErr (txL t ++ [7]) = 0 from by rw [rtErr, if_pos hr0])
  have T1 := hide_ (show txErr t = 0 from by rw [txErr, if_neg (by omega)])
  have ts : (decide ((t.length : Int) ≤ 4096)) = true := by simp; omega
  have h7 := strN_7
  clear hr0 hr1 hr2
  have htx : (txL t).length ≤ 6000 := by
    rw [txL]; split
    · simp
    · have := numL_len10 (W64_of (n := t.length) (by omega)); simp; omega
  have hbY : ([] : List Nat).length + (txL t).length ≤ 140737488355328 := by simp; omega
  have hbZ : ([] ++ txL t).length + 1 ≤ 140737488355328 := by simp; omega
  have hmZ := txL_lt ht
  have hlZ : (txL t ++ [7]).length ≤ 140737488355328 := by simp; omega
  clear hI hA hP h5 h10 htx hS
  go_enter Try.func7, Try.ntmps7
  go_wp2_with (first
    | (go_at_call 12; refine (alive_any _).mono ?_; rintro e w1 ⟨rfl, hx1⟩; have HT1 := hT.ext hx1; have HN1 := hN.ext hx1)
    | (refine b_len (.tmp 25) rfl rfl (v := vt) rfl HT1 ?_)
    | (refine w_yes _ _ _ rfl rfl rfl ?_; refine i_len (.tmp 29) rfl rfl (v := vn) rfl HN1 ?_)
    | (go_at_call 14; refine (Num_any n _ hw).mono ?_; rintro e w2 ⟨v2, rfl, ho2, hx2⟩; have HT2 := HT1.ext hx2)
    | (at_builtin; refine appb (.tmp 35) (.tmp 36) rfl rfl rfl rfl ho2 HT2 hbt hx2.size ?_; intro v3 w3 ho3 hb3 hg3; have H3 := ho3.byt; have hx3 : Ext w1 w3 := (show Below _ _ _ from hx2).trans hb3; clear ho2 ho3 hg3 hb3 HT2 HN1)
    | (go_at_call 11; refine (ReadNum_any v3 (numL n ++ t) _ hm1 H3 hl1).mono ?_; rintro e w4 ⟨v4, rfl, ho4, hx4⟩; rw [E3.out] at ho4; have H4 := ho4.byt; have hX4 := (hx1.trans hx3).trans hx4; have HT4 := hT.ext hX4; have HN4 := hN.ext hX4; clear ho4 H3; rw [E1.out, E2.out])
    | (refine w_yes _ _ _ rfl rfl rfl ?_; refine w_str _ rfl rfl rfl (by assumption) ?_)
    | (go_at_call 16; refine (Nums_any vn l _ HI.out HN4).mono ?_; rintro e w5 ⟨v5, rfl, ho5, hx5⟩; rw [N2.out] at ho5; have H5 := ho5.byt; have hX5 := hX4.trans hx5; clear ho5 HN4 H4 HT4; rw [N1.out])
    | (at_builtin; refine appb (.tmp 64) (.tmp 65) rfl rfl rfl rfl own_empty (H5.ext ((Ext.refl _).alloc _)) hbN (by simp) ?_; intro v6 w6 ho6 hb6 hg6)
    | (at_builtin; refine appb (.tmp 66) (.tmp 67) rfl rfl rfl rfl ho6 (hT.ext (hX5.trans (ext_alloc_below hb6))) hbM (by have := hb6.size; simp at this ⊢; omega) ?_; intro v7 w7 ho7 hb7 hg7; have H7 : Byt w7 v7 (nuL l ++ t) := ho7.byt; have hx7 : Ext w5 w7 := (show Below _ _ _ from ext_alloc_below hb6).trans hb7; have hX7 := hX5.trans hx7; have HN7 := hN.ext hX7; clear ho6 ho7 hg6 hg7 hb6 hb7 H5)
    | (refine i_len (.tmp 69) rfl rfl (v := vn) rfl HN7 ?_)
    | (go_at_call 18; refine (ReadNums_any v7 (nuL l ++ t) (l.length : Int) _ hm2 H7 hl2).mono ?_; rintro e w8 ⟨v8, v9, rfl, H8, H9, hx8⟩; rw [S1.out] at H8 H9; have hX8 := hX7.trans hx8; have HN8 := hN.ext hX8; clear H7 HN7; rw [S3.out])
    | (refine i_len (.tmp 75) rfl rfl (v := vn) rfl HN8 ?_))
  go_loop [15, 77] (fun s i => ∃ k : Nat, i = .int .i64 k ∧ k ≤ l.length ∧ s = .bool (sml (l.take k))) (fun _ i => l.length - (intOf i).toNat)
  case atStart => exact ⟨0, rfl, Nat.zero_le _, by simp [sml]⟩
  case round =>
    obtain ⟨k, rfl, hk, rfl⟩ := hrel
    by_cases hlt : k < l.length
    · have hnew : sml (l.take (k + 1)) = (sml (l.take k) && decide (l[k] ≤ 4611686018427387904)) := by
        rw [take_one l k hlt]; simp only [sml_snoc]
      have Hnew := hide_ hnew
      clear hnew
      by_cases hs : sml (l.take k) = true
      · by_cases hx : l[k] ≤ 4611686018427387904
        · have hv : sml (l.take (k + 1)) = true := by rw [Hnew.out, hs]; simp [hx]
          have Hv := hide_ hv
          clear hv
          go_wp2_with (first
            | (refine i_idx (.tmp 75) (.tmp 77) k rfl rfl (v := vn) rfl HN8 rfl hlt ?_; intro ad had))
          go_round
          case rel => exact ⟨k + 1, by go_num, (by omega), by (rw [Hv.out]) <;> (first | rfl | simp [hx] | simp [hs'])⟩
          case measure => simp [intOf]; omega
        · have hv : sml (l.take (k + 1)) = false := by rw [Hnew.out, hs]; simp; omega
          have Hv := hide_ hv
          clear hv
          go_wp2_with (first
            | (refine i_idx (.tmp 75) (.tmp 77) k rfl rfl (v := vn) rfl HN8 rfl hlt ?_; intro ad had))
          go_round
          case rel => exact ⟨k + 1, by go_num, (by omega), by (rw [Hv.out]) <;> (first | rfl | simp [hx] | simp [hs'])⟩
          case measure => simp [intOf]; omega
      · have hs' : sml (l.take k) = false := by simpa using hs
        have hv : sml (l.take (k + 1)) = false := by rw [Hnew.out, hs']; rfl
        have Hv := hide_ hv
        clear hv
        clear hs
        go_wp2_with (first
          | (refine i_idx (.tmp 75) (.tmp 77) k rfl rfl (v := vn) rfl HN8 rfl hlt ?_; intro ad had))
        go_round
        case rel => exact ⟨k + 1, by go_num, (by omega), by (rw [Hv.out]) <;> (first | rfl | simp [hx] | simp [hs'])⟩
        case measure => simp [intOf]; omega
    · have hs : sml (l.take k) = true := by rw [List.take_of_length_le (by omega)]; exact HS.out
      go_wp2_with (first
        | (go_at_call 20; refine (SameInts_any v8 vn l _ H8 HN8).mono ?_; rintro e w9 ⟨rfl, hx9⟩; have hXt := hX8.trans hx9; have HT9 := hT.ext hXt; have H9' : Byt w9 v9 t := H9.ext hx9)
        | (refine w_yes _ _ _ rfl rfl rfl ?_; refine w_str _ rfl rfl rfl (by assumption) ?_)
        | (go_at_call 21; refine (Text_any vt t _ (hT.ext hXt)).mono ?_; rintro e wT ⟨vy, rfl, hoY, hxT⟩; have HY := hoY.byt; have hX10 := hXt.trans hxT; have HT10 := hT.ext hX10; clear hoY; rw [T1.out])
        | (refine b_len (.tmp 115) rfl rfl (v := vt) rfl HT10 ?_)
        | (at_builtin; refine appb (.tmp 120) (.tmp 121) rfl rfl rfl rfl own_empty (HY.ext ((Ext.refl _).alloc _)) hbY (by simp) ?_; intro vA wA hoA hbA hgA)
        | (at_builtin; refine appb (.tmp 122) (.tmp 123) rfl rfl rfl rfl (hoA.ext ((Ext.refl _).alloc _)) (byt_one (n := 7) rfl) hbZ (by have := hbA.size; simp at this ⊢; omega) ?_; intro vB wB hoB hbB hgB; have HB : Byt wB vB (txL t ++ [7]) := hoB.byt; have hxB : Ext wT wB := (show Below _ _ _ from ext_alloc_below hbA).trans (((Below.refl _ _).alloc (ext_alloc_below hbA).size _).trans hbB); clear hoA hoB hgA hgB hbA hbB HT10 HY)
        | (go_at_call 23; refine (ReadText_any vB (txL t ++ [7]) _ hmZ HB hlZ).mono ?_; rintro e wR ⟨vZ, vL, rfl, HZ, HL, hxR⟩; have hX11 := (hX10.trans hxB).trans hxR; have HT11 := hT.ext hX11; clear HB; rw [R1.out] at HZ; rw [R2.out] at HL; rw [R3.out]))
      go_ret
      exact Keep.intro ⟨rfl, hX11⟩

set_option maxRecDepth 100000 in
set_option maxHeartbeats 3000000 in
theorem back_small_no (n : Nat) (vn vt : Value) (l : List Int) (t : List Nat) (W : World) (hw : W64 n) (hI : I64s l) (hN : Ints W vn l) (hT : Byt W vt t) (ht : ∀ x ∈ t, x < 256) (h5 : t.length ≤ 5000) (h1 : l.length ≤ 100) (hA : NuOk l) (hS : sml l = true) (hP : ¬ t.length ≤ 4096) :
    Calls Try.prog 7 #[.int .u64 n, vn, vt] W fun e w' => e = .returned (.bool true) ∧ Ext W w' := by
  refine calls_keep ?_
  have t1 : (decide ((5000 : Int) < (t.length : Int))) = false := by simp; omega
  have t2 : (decide ((100 : Int) < (l.length : Int))) = false := by simp; omega
  have h10 := numL_len10 hw
  have hbt : (numL n).length + t.length ≤ 140737488355328 := by omega
  have hm1 : ∀ x ∈ numL n ++ t, x < 256 := fun x hx => by
    rcases List.mem_append.1 hx with hx | hx
    · exact numL_lt256 _ x hx
    · exact ht x hx
  have hl1 : (numL n ++ t).length ≤ 140737488355328 := by simp; omega
  have E1 := hide_ (show (rd (numL n ++ t)).1 = n from by rw [rd_app hw])
  have E2 := hide_ (rdErr_app hw t)
  have E3 := hide_ (rdRest_app hw t)
  have HI := hide_ hI
  have N1 := hide_ (show nuErr l = 0 from by rw [nuErr, if_pos hA])
  have N2 := hide_ (show nuB l = nuL l from by rw [nuB, if_pos hA])
  have hnl := nuL_len l (fun x hx => (hI x hx).2)
  have hbN : ([] : List Nat).length + (nuL l).length ≤ 140737488355328 := by simp; omega
  have hbM : ([] ++ nuL l).length + t.length ≤ 140737488355328 := by simp; omega
  have hm2 : ∀ x ∈ nuL l ++ t, x < 256 := fun x hx => by
    rcases List.mem_append.1 hx with hx | hx
    · exact nuL_lt l x hx
    · exact ht x hx
  have hl2 : (nuL l ++ t).length ≤ 140737488355328 := by simp; omega
  have hrn : rnO (l.length : Int) (nuL l ++ t) = if sml l then some (l, t) else none := by
    rw [rnO, if_neg (by have := hA.1; omega), Int.toNat_natCast]
    exact rns_nuL l t (fun x hx => ⟨hA.2 x hx, (hI x hx).2⟩)
  rw [hS] at hrn
  have S1 := hide_ hrn
  have S3 := hide_ (show rnE (rnO (l.length : Int) (nuL l ++ t)) = 0 from by rw [hrn]; rfl)
  have HS := hide_ hS
  clear hrn hnl
  have T1 := hide_ (show txErr t = 11 from by rw [txErr, if_pos (by omega)])
  have ts : (decide ((t.length : Int) ≤ 4096)) = false := by simp; omega
  have htx : (txL t).length ≤ 6000 := by
    rw [txL]; split
    · simp
    · have := numL_len10 (W64_of (n := t.length) (by omega)); simp; omega
  have hbY : ([] : List Nat).length + (txL t).length ≤ 140737488355328 := by simp; omega
  have hbZ : ([] ++ txL t).length + 1 ≤ 140737488355328 := by simp; omega
  have hmZ := txL_lt ht
  have hlZ : (txL t ++ [7]).length ≤ 140737488355328 := by simp; omega
  clear hI hA hP h5 h10 htx hS
  go_enter Try.func7, Try.ntmps7
  go_wp2_with (first
    | (go_at_call 12; refine (alive_any _).mono ?_; rintro e w1 ⟨rfl, hx1⟩; have HT1 := hT.ext hx1; have HN1 := hN.ext hx1)
    | (refine b_len (.tmp 25) rfl rfl (v := vt) rfl HT1 ?_)
    | (refine w_yes _ _ _ rfl rfl rfl ?_; refine i_len (.tmp 29) rfl rfl (v := vn) rfl HN1 ?_)
    | (go_at_call 14; refine (Num_any n _ hw).mono ?_; rintro e w2 ⟨v2, rfl, ho2, hx2⟩; have HT2 := HT1.ext hx2)
    | (at_builtin; refine appb (.tmp 35) (.tmp 36) rfl rfl rfl rfl ho2 HT2 hbt hx2.size ?_; intro v3 w3 ho3 hb3 hg3; have H3 := ho3.byt; have hx3 : Ext w1 w3 := (show Below _ _ _ from hx2).trans hb3; clear ho2 ho3 hg3 hb3 HT2 HN1)
    | (go_at_call 11; refine (ReadNum_any v3 (numL n ++ t) _ hm1 H3 hl1).mono ?_; rintro e w4 ⟨v4, rfl, ho4, hx4⟩; rw [E3.out] at ho4; have H4 := ho4.byt; have hX4 := (hx1.trans hx3).trans hx4; have HT4 := hT.ext hX4; have HN4 := hN.ext hX4; clear ho4 H3; rw [E1.out, E2.out])
    | (refine w_yes _ _ _ rfl rfl rfl ?_; refine w_str _ rfl rfl rfl (by assumption) ?_)
    | (go_at_call 16; refine (Nums_any vn l _ HI.out HN4).mono ?_; rintro e w5 ⟨v5, rfl, ho5, hx5⟩; rw [N2.out] at ho5; have H5 := ho5.byt; have hX5 := hX4.trans hx5; clear ho5 HN4 H4 HT4; rw [N1.out])
    | (at_builtin; refine appb (.tmp 64) (.tmp 65) rfl rfl rfl rfl own_empty (H5.ext ((Ext.refl _).alloc _)) hbN (by simp) ?_; intro v6 w6 ho6 hb6 hg6)
    | (at_builtin; refine appb (.tmp 66) (.tmp 67) rfl rfl rfl rfl ho6 (hT.ext (hX5.trans (ext_alloc_below hb6))) hbM (by have := hb6.size; simp at this ⊢; omega) ?_; intro v7 w7 ho7 hb7 hg7; have H7 : Byt w7 v7 (nuL l ++ t) := ho7.byt; have hx7 : Ext w5 w7 := (show Below _ _ _ from ext_alloc_below hb6).trans hb7; have hX7 := hX5.trans hx7; have HN7 := hN.ext hX7; clear ho6 ho7 hg6 hg7 hb6 hb7 H5)
    | (refine i_len (.tmp 69) rfl rfl (v := vn) rfl HN7 ?_)
    | (go_at_call 18; refine (ReadNums_any v7 (nuL l ++ t) (l.length : Int) _ hm2 H7 hl2).mono ?_; rintro e w8 ⟨v8, v9, rfl, H8, H9, hx8⟩; rw [S1.out] at H8 H9; have hX8 := hX7.trans hx8; have HN8 := hN.ext hX8; clear H7 HN7; rw [S3.out])
    | (refine i_len (.tmp 75) rfl rfl (v := vn) rfl HN8 ?_))
  go_loop [15, 77] (fun s i => ∃ k : Nat, i = .int .i64 k ∧ k ≤ l.length ∧ s = .bool (sml (l.take k))) (fun _ i => l.length - (intOf i).toNat)
  case atStart => exact ⟨0, rfl, Nat.zero_le _, by simp [sml]⟩
  case round =>
    obtain ⟨k, rfl, hk, rfl⟩ := hrel
    by_cases hlt : k < l.length
    · have hnew : sml (l.take (k + 1)) = (sml (l.take k) && decide (l[k] ≤ 4611686018427387904)) := by
        rw [take_one l k hlt]; simp only [sml_snoc]
      have Hnew := hide_ hnew
      clear hnew
      by_cases hs : sml (l.take k) = true
      · by_cases hx : l[k] ≤ 4611686018427387904
        · have hv : sml (l.take (k + 1)) = true := by rw [Hnew.out, hs]; simp [hx]
          have Hv := hide_ hv
          clear hv
          go_wp2_with (first
            | (refine i_idx (.tmp 75) (.tmp 77) k rfl rfl (v := vn) rfl HN8 rfl hlt ?_; intro ad had))
          go_round
          case rel => exact ⟨k + 1, by go_num, (by omega), by (rw [Hv.out]) <;> (first | rfl | simp [hx] | simp [hs'])⟩
          case measure => simp [intOf]; omega
        · have hv : sml (l.take (k + 1)) = false := by rw [Hnew.out, hs]; simp; omega
          have Hv := hide_ hv
          clear hv
          go_wp2_with (first
            | (refine i_idx (.tmp 75) (.tmp 77) k rfl rfl (v := vn) rfl HN8 rfl hlt ?_; intro ad had))
          go_round
          case rel => exact ⟨k + 1, by go_num, (by omega), by (rw [Hv.out]) <;> (first | rfl | simp [hx] | simp [hs'])⟩
          case measure => simp [intOf]; omega
      · have hs' : sml (l.take k) = false := by simpa using hs
        have hv : sml (l.take (k + 1)) = false := by rw [Hnew.out, hs']; rfl
        have Hv := hide_ hv
        clear hv
        clear hs
        go_wp2_with (first
          | (refine i_idx (.tmp 75) (.tmp 77) k rfl rfl (v := vn) rfl HN8 rfl hlt ?_; intro ad had))
        go_round
        case rel => exact ⟨k + 1, by go_num, (by omega), by (rw [Hv.out]) <;> (first | rfl | simp [hx] | simp [hs'])⟩
        case measure => simp [intOf]; omega
    · have hs : sml (l.take k) = true := by rw [List.take_of_length_le (by omega)]; exact HS.out
      go_wp2_with (first
        | (go_at_call 20; refine (SameInts_any v8 vn l _ H8 HN8).mono ?_; rintro e w9 ⟨rfl, hx9⟩; have hXt := hX8.trans hx9; have HT9 := hT.ext hXt; have H9' : Byt w9 v9 t := H9.ext hx9)
        | (refine w_yes _ _ _ rfl rfl rfl ?_; refine w_str _ rfl rfl rfl (by assumption) ?_)
        | (go_at_call 21; refine (Text_any vt t _ (hT.ext hXt)).mono ?_; rintro e wT ⟨vy, rfl, hoY, hxT⟩; have HY := hoY.byt; have hX10 := hXt.trans hxT; have HT10 := hT.ext hX10; clear hoY; rw [T1.out])
        | (refine b_len (.tmp 115) rfl rfl (v := vt) rfl HT10 ?_)
        | (at_builtin; refine appb (.tmp 120) (.tmp 121) rfl rfl rfl rfl own_empty (HY.ext ((Ext.refl _).alloc _)) hbY (by simp) ?_; intro vA wA hoA hbA hgA)
        | (at_builtin; refine appb (.tmp 122) (.tmp 123) rfl rfl rfl rfl (hoA.ext ((Ext.refl _).alloc _)) (byt_one (n := 7) rfl) hbZ (by have := hbA.size; simp at this ⊢; omega) ?_; intro vB wB hoB hbB hgB; have HB : Byt wB vB (txL t ++ [7]) := hoB.byt; have hxB : Ext wT wB := (show Below _ _ _ from ext_alloc_below hbA).trans (((Below.refl _ _).alloc (ext_alloc_below hbA).size _).trans hbB); clear hoA hoB hgA hgB hbA hbB HT10 HY)
        | (go_at_call 23; refine (ReadText_any vB (txL t ++ [7]) _ hmZ HB hlZ).mono ?_; rintro e wR ⟨vZ, vL, rfl, HZ, HL, hxR⟩; have hX11 := (hX10.trans hxB).trans hxR; have HT11 := hT.ext hX11; clear HB))
      go_ret
      exact Keep.intro ⟨rfl, hX11⟩

set_option maxRecDepth 100000 in
set_option maxHeartbeats 3000000 in
theorem back_big_yes (n : Nat) (vn vt : Value) (l : List Int) (t : List Nat) (W : World) (hw : W64 n) (hI : I64s l) (hN : Ints W vn l) (hT : Byt W vt t) (ht : ∀ x ∈ t, x < 256) (h5 : t.length ≤ 5000) (h1 : l.length ≤ 100) (hA : NuOk l) (hS : sml l = false) (hP : t.length ≤ 4096) :
    Calls Try.prog 7 #[.int .u64 n, vn, vt] W fun e w' => e = .returned (.bool true) ∧ Ext W w' := by
  refine calls_keep ?_
  have t1 : (decide ((5000 : Int) < (t.length : Int))) = false := by simp; omega
  have t2 : (decide ((100 : Int) < (l.length : Int))) = false := by simp; omega
  have h10 := numL_len10 hw
  have hbt : (numL n).length + t.length ≤ 140737488355328 := by omega
  have hm1 : ∀ x ∈ numL n ++ t, x < 256 := fun x hx => by
    rcases List.mem_append.1 hx with hx | hx
    · exact numL_lt256 _ x hx
    · exact ht x hx
  have hl1 : (numL n ++ t).length ≤ 140737488355328 := by simp; omega
  have E1 := hide_ (show (rd (numL n ++ t)).1 = n from by rw [rd_app hw])
  have E2 := hide_ (rdErr_app hw t)
  have E3 := hide_ (rdRest_app hw t)
  have HI := hide_ hI
  have N1 := hide_ (show nuErr l = 0 from by rw [nuErr, if_pos hA])
  have N2 := hide_ (show nuB l = nuL l from by rw [nuB, if_pos hA])
  have hnl := nuL_len l (fun x hx => (hI x hx).2)
  have hbN : ([] : List Nat).length + (nuL l).length ≤ 140737488355328 := by simp; omega
  have hbM : ([] ++ nuL l).length + t.length ≤ 140737488355328 := by simp; omega
  have hm2 : ∀ x ∈ nuL l ++ t, x < 256 := fun x hx => by
    rcases List.mem_append.1 hx with hx | hx
    · exact nuL_lt l x hx
    · exact ht x hx
  have hl2 : (nuL l ++ t).length ≤ 140737488355328 := by simp; omega
  have hrn : rnO (l.length : Int) (nuL l ++ t) = if sml l then some (l, t) else none := by
    rw [rnO, if_neg (by have := hA.1; omega), Int.toNat_natCast]
    exact rns_nuL l t (fun x hx => ⟨hA.2 x hx, (hI x hx).2⟩)
  rw [hS] at hrn
  have S1 := hide_ hrn
  have S3 := hide_ (show rnE (rnO (l.length : Int) (nuL l ++ t)) = 11 from by rw [hrn]; rfl)
  have HS := hide_ hS
  clear hrn hnl
  obtain ⟨hr0, hr1, hr2⟩ := rt_back hP
  have R1 := hide_ hr1
  have R2 := hide_ hr2
  have R3 := hide_ (show rtErr (txL t ++ [7]) = 0 from by rw [rtErr, if_pos hr0])
  have T1 := hide_ (show txErr t = 0 from by rw [txErr, if_neg (by omega)])
  have ts : (decide ((t.length : Int) ≤ 4096)) = true := by simp; omega
  have h7 := strN_7
  clear hr0 hr1 hr2
  have htx : (txL t).length ≤ 6000 := by
    rw [txL]; split
    · simp
    · have := numL_len10 (W64_of (n := t.length) (by omega)); simp; omega
  have hbY : ([] : List Nat).length + (txL t).length ≤ 140737488355328 := by simp; omega
  have hbZ : ([] ++ txL t).length + 1 ≤ 140737488355328 := by simp; omega
  have hmZ := txL_lt ht
  have hlZ : (txL t ++ [7]).length ≤ 140737488355328 := by simp; omega
  clear hI hA hP h5 h10 htx hS
  go_enter Try.func7, Try.ntmps7
  go_wp2_with (first
    | (go_at_call 12; refine (alive_any _).mono ?_; rintro e w1 ⟨rfl, hx1⟩; have HT1 := hT.ext hx1; have HN1 := hN.ext hx1)
    | (refine b_len (.tmp 25) rfl rfl (v := vt) rfl HT1 ?_)
    | (refine w_yes _ _ _ rfl rfl rfl ?_; refine i_len (.tmp 29) rfl rfl (v := vn) rfl HN1 ?_)
    | (go_at_call 14; refine (Num_any n _ hw).mono ?_; rintro e w2 ⟨v2, rfl, ho2, hx2⟩; have HT2 := HT1.ext hx2)
    | (at_builtin; refine appb (.tmp 35) (.tmp 36) rfl rfl rfl rfl ho2 HT2 hbt hx2.size ?_; intro v3 w3 ho3 hb3 hg3; have H3 := ho3.byt; have hx3 : Ext w1 w3 := (show Below _ _ _ from hx2).trans hb3; clear ho2 ho3 hg3 hb3 HT2 HN1)
    | (go_at_call 11; refine (ReadNum_any v3 (numL n ++ t) _ hm1 H3 hl1).mono ?_; rintro e w4 ⟨v4, rfl, ho4, hx4⟩; rw [E3.out] at ho4; have H4 := ho4.byt; have hX4 := (hx1.trans hx3).trans hx4; have HT4 := hT.ext hX4; have HN4 := hN.ext hX4; clear ho4 H3; rw [E1.out, E2.out])
    | (refine w_yes _ _ _ rfl rfl rfl ?_; refine w_str _ rfl rfl rfl (by assumption) ?_)
    | (go_at_call 16; refine (Nums_any vn l _ HI.out HN4).mono ?_; rintro e w5 ⟨v5, rfl, ho5, hx5⟩; rw [N2.out] at ho5; have H5 := ho5.byt; have hX5 := hX4.trans hx5; clear ho5 HN4 H4 HT4; rw [N1.out])
    | (at_builtin; refine appb (.tmp 64) (.tmp 65) rfl rfl rfl rfl own_empty (H5.ext ((Ext.refl _).alloc _)) hbN (by simp) ?_; intro v6 w6 ho6 hb6 hg6)
    | (at_builtin; refine appb (.tmp 66) (.tmp 67) rfl rfl rfl rfl ho6 (hT.ext (hX5.trans (ext_alloc_below hb6))) hbM (by have := hb6.size; simp at this ⊢; omega) ?_; intro v7 w7 ho7 hb7 hg7; have H7 : Byt w7 v7 (nuL l ++ t) := ho7.byt; have hx7 : Ext w5 w7 := (show Below _ _ _ from ext_alloc_below hb6).trans hb7; have hX7 := hX5.trans hx7; have HN7 := hN.ext hX7; clear ho6 ho7 hg6 hg7 hb6 hb7 H5)
    | (refine i_len (.tmp 69) rfl rfl (v := vn) rfl HN7 ?_)
    | (go_at_call 18; refine (ReadNums_any v7 (nuL l ++ t) (l.length : Int) _ hm2 H7 hl2).mono ?_; rintro e w8 ⟨v8, v9, rfl, H8, H9, hx8⟩; rw [S1.out] at H8 H9; have hX8 := hX7.trans hx8; have HN8 := hN.ext hX8; clear H7 HN7; rw [S3.out])
    | (refine i_len (.tmp 75) rfl rfl (v := vn) rfl HN8 ?_))
  go_loop [15, 77] (fun s i => ∃ k : Nat, i = .int .i64 k ∧ k ≤ l.length ∧ s = .bool (sml (l.take k))) (fun _ i => l.length - (intOf i).toNat)
  case atStart => exact ⟨0, rfl, Nat.zero_le _, by simp [sml]⟩
  case round =>
    obtain ⟨k, rfl, hk, rfl⟩ := hrel
    by_cases hlt : k < l.length
    · have hnew : sml (l.take (k + 1)) = (sml (l.take k) && decide (l[k] ≤ 4611686018427387904)) := by
        rw [take_one l k hlt]; simp only [sml_snoc]
      have Hnew := hide_ hnew
      clear hnew
      by_cases hs : sml (l.take k) = true
      · by_cases hx : l[k] ≤ 4611686018427387904
        · have hv : sml (l.take (k + 1)) = true := by rw [Hnew.out, hs]; simp [hx]
          have Hv := hide_ hv
          clear hv
          go_wp2_with (first
            | (refine i_idx (.tmp 75) (.tmp 77) k rfl rfl (v := vn) rfl HN8 rfl hlt ?_; intro ad had))
          go_round
          case rel => exact ⟨k + 1, by go_num, (by omega), by (rw [Hv.out]) <;> (first | rfl | simp [hx] | simp [hs'])⟩
          case measure => simp [intOf]; omega
        · have hv : sml (l.take (k + 1)) = false := by rw [Hnew.out, hs]; simp; omega
          have Hv := hide_ hv
          clear hv
          go_wp2_with (first
            | (refine i_idx (.tmp 75) (.tmp 77) k rfl rfl (v := vn) rfl HN8 rfl hlt ?_; intro ad had))
          go_round
          case rel => exact ⟨k + 1, by go_num, (by omega), by (rw [Hv.out]) <;> (first | rfl | simp [hx] | simp [hs'])⟩
          case measure => simp [intOf]; omega
      · have hs' : sml (l.take k) = false := by simpa using hs
        have hv : sml (l.take (k + 1)) = false := by rw [Hnew.out, hs']; rfl
        have Hv := hide_ hv
        clear hv
        clear hs
        go_wp2_with (first
          | (refine i_idx (.tmp 75) (.tmp 77) k rfl rfl (v := vn) rfl HN8 rfl hlt ?_; intro ad had))
        go_round
        case rel => exact ⟨k + 1, by go_num, (by omega), by (rw [Hv.out]) <;> (first | rfl | simp [hx] | simp [hs'])⟩
        case measure => simp [intOf]; omega
    · have hs : sml (l.take k) = false := by rw [List.take_of_length_le (by omega)]; exact HS.out
      have hXt := hX8
      go_wp2_with (first
        | (refine w_yes _ _ _ rfl rfl rfl ?_; refine w_str _ rfl rfl rfl (by assumption) ?_)
        | (go_at_call 21; refine (Text_any vt t _ (hT.ext hXt)).mono ?_; rintro e wT ⟨vy, rfl, hoY, hxT⟩; have HY := hoY.byt; have hX10 := hXt.trans hxT; have HT10 := hT.ext hX10; clear hoY; rw [T1.out])
        | (refine b_len (.tmp 115) rfl rfl (v := vt) rfl HT10 ?_)
        | (at_builtin; refine appb (.tmp 120) (.tmp 121) rfl rfl rfl rfl own_empty (HY.ext ((Ext.refl _).alloc _)) hbY (by simp) ?_; intro vA wA hoA hbA hgA)
        | (at_builtin; refine appb (.tmp 122) (.tmp 123) rfl rfl rfl rfl (hoA.ext ((Ext.refl _).alloc _)) (byt_one (n := 7) rfl) hbZ (by have := hbA.size; simp at this ⊢; omega) ?_; intro vB wB hoB hbB hgB; have HB : Byt wB vB (txL t ++ [7]) := hoB.byt; have hxB : Ext wT wB := (show Below _ _ _ from ext_alloc_below hbA).trans (((Below.refl _ _).alloc (ext_alloc_below hbA).size _).trans hbB); clear hoA hoB hgA hgB hbA hbB HT10 HY)
        | (go_at_call 23; refine (ReadText_any vB (txL t ++ [7]) _ hmZ HB hlZ).mono ?_; rintro e wR ⟨vZ, vL, rfl, HZ, HL, hxR⟩; have hX11 := (hX10.trans hxB).trans hxR; have HT11 := hT.ext hX11; clear HB; rw [R1.out] at HZ; rw [R2.out] at HL; rw [R3.out]))
      go_ret
      exact Keep.intro ⟨rfl, hX11⟩

set_option maxRecDepth 100000 in
set_option maxHeartbeats 3000000 in
theorem back_big_no (n : Nat) (vn vt : Value) (l : List Int) (t : List Nat) (W : World) (hw : W64 n) (hI : I64s l) (hN : Ints W vn l) (hT : Byt W vt t) (ht : ∀ x ∈ t, x < 256) (h5 : t.length ≤ 5000) (h1 : l.length ≤ 100) (hA : NuOk l) (hS : sml l = false) (hP : ¬ t.length ≤ 4096) :
    Calls Try.prog 7 #[.int .u64 n, vn, vt] W fun e w' => e = .returned (.bool true) ∧ Ext W w' := by
  refine calls_keep ?_
  have t1 : (decide ((5000 : Int) < (t.length : Int))) = false := by simp; omega
  have t2 : (decide ((100 : Int) < (l.length : Int))) = false := by simp; omega
  have h10 := numL_len10 hw
  have hbt : (numL n).length + t.length ≤ 140737488355328 := by omega
  have hm1 : ∀ x ∈ numL n ++ t, x < 256 := fun x hx => by
    rcases List.mem_append.1 hx with hx | hx
    · exact numL_lt256 _ x hx
    · exact ht x hx
  have hl1 : (numL n ++ t).length ≤ 140737488355328 := by simp; omega
  have E1 := hide_ (show (rd (numL n ++ t)).1 = n from by rw [rd_app hw])
  have E2 := hide_ (rdErr_app hw t)
  have E3 := hide_ (rdRest_app hw t)
  have HI := hide_ hI
  have N1 := hide_ (show nuErr l = 0 from by rw [nuErr, if_pos hA])
  have N2 := hide_ (show nuB l = nuL l from by rw [nuB, if_pos hA])
  have hnl := nuL_len l (fun x hx => (hI x hx).2)
  have hbN : ([] : List Nat).length + (nuL l).length ≤ 140737488355328 := by simp; omega
  have hbM : ([] ++ nuL l).length + t.length ≤ 140737488355328 := by simp; omega
  have hm2 : ∀ x ∈ nuL l ++ t, x < 256 := fun x hx => by
    rcases List.mem_append.1 hx with hx | hx
    · exact nuL_lt l x hx
    · exact ht x hx
  have hl2 : (nuL l ++ t).length ≤ 140737488355328 := by simp; omega
  have hrn : rnO (l.length : Int) (nuL l ++ t) = if sml l then some (l, t) else none := by
    rw [rnO, if_neg (by have := hA.1; omega), Int.toNat_natCast]
    exact rns_nuL l t (fun x hx => ⟨hA.2 x hx, (hI x hx).2⟩)
  rw [hS] at hrn
  have S1 := hide_ hrn
  have S3 := hide_ (show rnE (rnO (l.length : Int) (nuL l ++ t)) = 11 from by rw [hrn]; rfl)
  have HS := hide_ hS
  clear hrn hnl
  have T1 := hide_ (show txErr t = 11 from by rw [txErr, if_pos (by omega)])
  have ts : (decide ((t.length : Int) ≤ 4096)) = false := by simp; omega
  have htx : (txL t).length ≤ 6000 := by
    rw [txL]; split
    · simp
    · have := numL_len10 (W64_of (n := t.length) (by omega)); simp; omega
  have hbY : ([] : List Nat).length + (txL t).length ≤ 140737488355328 := by simp; omega
  have hbZ : ([] ++ txL t).length + 1 ≤ 140737488355328 := by simp; omega
  have hmZ := txL_lt ht
  have hlZ : (txL t ++ [7]).length ≤ 140737488355328 := by simp; omega
  clear hI hA hP h5 h10 htx hS
  go_enter Try.func7, Try.ntmps7
  go_wp2_with (first
    | (go_at_call 12; refine (alive_any _).mono ?_; rintro e w1 ⟨rfl, hx1⟩; have HT1 := hT.ext hx1; have HN1 := hN.ext hx1)
    | (refine b_len (.tmp 25) rfl rfl (v := vt) rfl HT1 ?_)
    | (refine w_yes _ _ _ rfl rfl rfl ?_; refine i_len (.tmp 29) rfl rfl (v := vn) rfl HN1 ?_)
    | (go_at_call 14; refine (Num_any n _ hw).mono ?_; rintro e w2 ⟨v2, rfl, ho2, hx2⟩; have HT2 := HT1.ext hx2)
    | (at_builtin; refine appb (.tmp 35) (.tmp 36) rfl rfl rfl rfl ho2 HT2 hbt hx2.size ?_; intro v3 w3 ho3 hb3 hg3; have H3 := ho3.byt; have hx3 : Ext w1 w3 := (show Below _ _ _ from hx2).trans hb3; clear ho2 ho3 hg3 hb3 HT2 HN1)
    | (go_at_call 11; refine (ReadNum_any v3 (numL n ++ t) _ hm1 H3 hl1).mono ?_; rintro e w4 ⟨v4, rfl, ho4, hx4⟩; rw [E3.out] at ho4; have H4 := ho4.byt; have hX4 := (hx1.trans hx3).trans hx4; have HT4 := hT.ext hX4; have HN4 := hN.ext hX4; clear ho4 H3; rw [E1.out, E2.out])
    | (refine w_yes _ _ _ rfl rfl rfl ?_; refine w_str _ rfl rfl rfl (by assumption) ?_)
    | (go_at_call 16; refine (Nums_any vn l _ HI.out HN4).mono ?_; rintro e w5 ⟨v5, rfl, ho5, hx5⟩; rw [N2.out] at ho5; have H5 := ho5.byt; have hX5 := hX4.trans hx5; clear ho5 HN4 H4 HT4; rw [N1.out])
    | (at_builtin; refine appb (.tmp 64) (.tmp 65) rfl rfl rfl rfl own_empty (H5.ext ((Ext.refl _).alloc _)) hbN (by simp) ?_; intro v6 w6 ho6 hb6 hg6)
    | (at_builtin; refine appb (.tmp 66) (.tmp 67) rfl rfl rfl rfl ho6 (hT.ext (hX5.trans (ext_alloc_below hb6))) hbM (by have := hb6.size; simp at this ⊢; omega) ?_; intro v7 w7 ho7 hb7 hg7; have H7 : Byt w7 v7 (nuL l ++ t) := ho7.byt; have hx7 : Ext w5 w7 := (show Below _ _ _ from ext_alloc_below hb6).trans hb7; have hX7 := hX5.trans hx7; have HN7 := hN.ext hX7; clear ho6 ho7 hg6 hg7 hb6 hb7 H5)
    | (refine i_len (.tmp 69) rfl rfl (v := vn) rfl HN7 ?_)
    | (go_at_call 18; refine (ReadNums_any v7 (nuL l ++ t) (l.length : Int) _ hm2 H7 hl2).mono ?_; rintro e w8 ⟨v8, v9, rfl, H8, H9, hx8⟩; rw [S1.out] at H8 H9; have hX8 := hX7.trans hx8; have HN8 := hN.ext hX8; clear H7 HN7; rw [S3.out])
    | (refine i_len (.tmp 75) rfl rfl (v := vn) rfl HN8 ?_))
  go_loop [15, 77] (fun s i => ∃ k : Nat, i = .int .i64 k ∧ k ≤ l.length ∧ s = .bool (sml (l.take k))) (fun _ i => l.length - (intOf i).toNat)
  case atStart => exact ⟨0, rfl, Nat.zero_le _, by simp [sml]⟩
  case round =>
    obtain ⟨k, rfl, hk, rfl⟩ := hrel
    by_cases hlt : k < l.length
    · have hnew : sml (l.take (k + 1)) = (sml (l.take k) && decide (l[k] ≤ 4611686018427387904)) := by
        rw [take_one l k hlt]; simp only [sml_snoc]
      have Hnew := hide_ hnew
      clear hnew
      by_cases hs : sml (l.take k) = true
      · by_cases hx : l[k] ≤ 4611686018427387904
        · have hv : sml (l.take (k + 1)) = true := by rw [Hnew.out, hs]; simp [hx]
          have Hv := hide_ hv
          clear hv
          go_wp2_with (first
            | (refine i_idx (.tmp 75) (.tmp 77) k rfl rfl (v := vn) rfl HN8 rfl hlt ?_; intro ad had))
          go_round
          case rel => exact ⟨k + 1, by go_num, (by omega), by (rw [Hv.out]) <;> (first | rfl | simp [hx] | simp [hs'])⟩
          case measure => simp [intOf]; omega
        · have hv : sml (l.take (k + 1)) = false := by rw [Hnew.out, hs]; simp; omega
          have Hv := hide_ hv
          clear hv
          go_wp2_with (first
            | (refine i_idx (.tmp 75) (.tmp 77) k rfl rfl (v := vn) rfl HN8 rfl hlt ?_; intro ad had))
          go_round
          case rel => exact ⟨k + 1, by go_num, (by omega), by (rw [Hv.out]) <;> (first | rfl | simp [hx] | simp [hs'])⟩
          case measure => simp [intOf]; omega
      · have hs' : sml (l.take k) = false := by simpa using hs
        have hv : sml (l.take (k + 1)) = false := by rw [Hnew.out, hs']; rfl
        have Hv := hide_ hv
        clear hv
        clear hs
        go_wp2_with (first
          | (refine i_idx (.tmp 75) (.tmp 77) k rfl rfl (v := vn) rfl HN8 rfl hlt ?_; intro ad had))
        go_round
        case rel => exact ⟨k + 1, by go_num, (by omega), by (rw [Hv.out]) <;> (first | rfl | simp [hx] | simp [hs'])⟩
        case measure => simp [intOf]; omega
    · have hs : sml (l.take k) = false := by rw [List.take_of_length_le (by omega)]; exact HS.out
      have hXt := hX8
      go_wp2_with (first
        | (refine w_yes _ _ _ rfl rfl rfl ?_; refine w_str _ rfl rfl rfl (by assumption) ?_)
        | (go_at_call 21; refine (Text_any vt t _ (hT.ext hXt)).mono ?_; rintro e wT ⟨vy, rfl, hoY, hxT⟩; have HY := hoY.byt; have hX10 := hXt.trans hxT; have HT10 := hT.ext hX10; clear hoY; rw [T1.out])
        | (refine b_len (.tmp 115) rfl rfl (v := vt) rfl HT10 ?_)
        | (at_builtin; refine appb (.tmp 120) (.tmp 121) rfl rfl rfl rfl own_empty (HY.ext ((Ext.refl _).alloc _)) hbY (by simp) ?_; intro vA wA hoA hbA hgA)
        | (at_builtin; refine appb (.tmp 122) (.tmp 123) rfl rfl rfl rfl (hoA.ext ((Ext.refl _).alloc _)) (byt_one (n := 7) rfl) hbZ (by have := hbA.size; simp at this ⊢; omega) ?_; intro vB wB hoB hbB hgB; have HB : Byt wB vB (txL t ++ [7]) := hoB.byt; have hxB : Ext wT wB := (show Below _ _ _ from ext_alloc_below hbA).trans (((Below.refl _ _).alloc (ext_alloc_below hbA).size _).trans hbB); clear hoA hoB hgA hgB hbA hbB HT10 HY)
        | (go_at_call 23; refine (ReadText_any vB (txL t ++ [7]) _ hmZ HB hlZ).mono ?_; rintro e wR ⟨vZ, vL, rfl, HZ, HL, hxR⟩; have hX11 := (hX10.trans hxB).trans hxR; have HT11 := hT.ext hX11; clear HB))
      go_ret
      exact Keep.intro ⟨rfl, hX11⟩

theorem back_law (n : Nat) (vn vt : Value) (l : List Int) (t : List Nat) (W : World) (hw : W64 n) (hI : I64s l) (hN : Ints W vn l) (hT : Byt W vt t) (ht : ∀ x ∈ t, x < 256) :
    Calls Try.prog 7 #[.int .u64 n, vn, vt] W fun e w' => e = .returned (.bool true) ∧ Ext W w' := by
  by_cases hE : 5000 < t.length ∨ 100 < l.length
  · exact back_early n vn vt l t W hN hT hE
  · by_cases hA : NuOk l <;> by_cases hP : t.length ≤ 4096
    · cases hS : sml l with
      | true => exact back_small_yes n vn vt l t W hw hI hN hT ht (by omega) (by omega) hA hS hP
      | false => exact back_big_yes n vn vt l t W hw hI hN hT ht (by omega) (by omega) hA hS hP
    · cases hS : sml l with
      | true => exact back_small_no n vn vt l t W hw hI hN hT ht (by omega) (by omega) hA hS hP
      | false => exact back_big_no n vn vt l t W hw hI hN hT ht (by omega) (by omega) hA hS hP
    · exact back_bad_yes n vn vt l t W hw hI hN hT ht (by omega) (by omega) hA hP
    · exact back_bad_no n vn vt l t W hw hI hN hT ht (by omega) (by omega) hA hP

set_option maxRecDepth 100000 in
theorem back_lifted (os : Os) (started : os.Started) (H : Type) (enc : TypeId × Value → H) :
    ReturnsInHanded {} Try.checked os 7 .any (Rows.wireBackSpec.pre6 enc Try.prog Try.f7 Rows.wireBackRow.domain false) (Rows.wireBackSpec.post enc Try.prog Try.f7 false true false false) := by
  refine law_lifted (s := Rows.wireBackSpec) (conds := Rows.wireBackRow.domain) Try.func7 (by kernel_rfl) rfl (fun H ds h => by
      rw [show Try.f7.params.size = 3 from rfl] at h
      match ds, h with
      | [d0, d1, d2], _ => rfl) rfl rfl (by decide +kernel) os started H enc
    (ChangeSpec.witness6 (enc := enc) (C := Try.checked) false ⟨#[], #[.int .u64 0, .slice none 0 0, .slice none 0 0], []⟩ 8 (by kernel_rfl) (by kernel_rfl) (by kernel_rfl) (by kernel_rfl)) ?_
  intro W base args ds p hval hA hsz _
  have hp : Try.f7.params.toList = [22, 32, 23] := rfl
  rw [hp] at hA hsz
  obtain ⟨v0, v1, v2, d0, d1, d2, p0, p1, p2, rfl, rfl, rfl, h0, h1, h2⟩ := trodAll_three hA
  obtain ⟨a0, rfl, b0⟩ := arg_u64 (hval 0 22 v0 rfl rfl) h0
  obtain ⟨l1, a1, b1, c1⟩ := arg_ints hsz (j := 1) rfl rfl (hval 1 32 v1 rfl rfl) h1
  obtain ⟨l2, a2, b2, c2⟩ := arg_bytes hsz (j := 2) rfl rfl (hval 2 23 v2 rfl rfl) h2
  exact back_law a0 v1 v2 l1 l2 W b0 b1 a1 a2 b2

theorem back_holds : Rows.WireBackSaid :=
  OpenClaim.holds_of_wide 7 Try.f7 rfl rfl rfl rfl rfl rfl rfl ⟨rfl, rfl, rfl, rfl, rfl⟩ rfl rfl rfl rfl rfl (by kernel_rfl) Try.func7 (by kernel_rfl)
    (of_decide_eq_true (by kernel_rfl)) (by unfold Func.isWrapper; first | (rw [if_pos (by decide +kernel)]; kernel_rfl) | (rw [if_neg (by decide +kernel)]; exact ⟨rfl, rfl⟩))
    (fun os started H enc _ => back_lifted os started H enc)
#print axioms back_holds

end Go.Proofs.Ytjabedimhdhiiaa
