/- The statement TallyFew: votes of a set that isn't most make nothing most, and nothing committed; of a set that isn't some no view is ahead. -/
import Derived.Test.YtmhmkaginnddeaaTlV
import Derived.Test.YtmhmkaginnddeaaTlRa
import Derived.Test.YtmhmkaginnddeaaArgI
namespace Go.Proofs.Ytmhmkaginnddeaa
set_option maxRecDepth 100000
open Go.RowKit Go.ChangeShapes Go.WideShapes Go.ChangeAt

/-- The votes of those in a set. -/
def ofWho (who : List Int) (l : List VtD) : List VtD := l.filter fun d => decide (d.f ∈ who)
theorem ofWho_step (who : List Int) {l : List VtD} {i : Nat} (hi : i < l.length) {d : VtD} (hd : l[i] = d) : ofWho who (l.take (i + 1)) = ofWho who (l.take i) ++ (if d.f ∈ who then [d] else []) := by
  unfold ofWho
  rw [List.take_add_one, List.getElem?_eq_getElem hi, hd, List.filter_append]
  congr 1
  simp only [Option.toList_some, List.filter_cons, List.filter_nil, decide_eq_true_eq]
theorem mem_take_succ {who : List Int} {j : Nat} (hj : j < who.length) {x : Int} (hx : who[j] = x) (f : Int) : decide (f ∈ who.take (j + 1)) = (decide (f ∈ who.take j) || (x == f)) := by
  rw [Bool.eq_iff_iff, Bool.or_eq_true, decide_eq_true_iff, decide_eq_true_iff, beq_iff_eq, List.take_add_one, List.getElem?_eq_getElem hj, hx, List.mem_append]
  simp only [Option.toList_some, List.mem_singleton]
  exact or_congr Iff.rfl eq_comm
theorem ofWho_len (who : List Int) (l : List VtD) : (ofWho who l).length ≤ l.length := List.length_filter_le _ _
theorem ofWho_inn {n : Nat} {who : List Int} {l : List VtD} (k w : Int) (i : Nat) (h : ofV (votesOf n (ofWho who l)) k w i ≠ none) : inn who i = true := by
  cases hq : ofV (votesOf n (ofWho who l)) k w i with
  | none => exact absurd hq h
  | some x =>
    obtain ⟨v, hv, _, _, e3, _⟩ := ofV_mem hq
    have h1 := (votesOf_ok n _ v hv).2
    unfold ofWho at h1
    have h2 := of_decide_eq_true (List.mem_filter.1 h1).2
    unfold inn
    rw [List.any_eq_true]
    exact ⟨v.f, h2, by rw [e3]; simp⟩

set_option maxRecDepth 100000 in
set_option maxHeartbeats 12800000 in
theorem tallyFew_law (v0 v1 v2 : Value) (t : List Int) (l : List VtD) (who : List Int) (W : World) (a0 : Ints W v0 t) (a1 : Recs 4 VtR W v1 l) (a2 : Ints W v2 who) (b2 : ∀ x ∈ who, -9223372036854775808 ≤ x ∧ x ≤ 9223372036854775807) (c2 : who.length * 8 ≤ 140737488351232) :
    Calls Try.prog 8 #[v0, v1, v2] W fun e w' => e = .returned (.bool true) ∧ Ext W w' := by
  refine calls_keep ?_
  have hs := hide_ a0
  have hl := hide_ a1
  have hw := hide_ a2
  have hX := Ext.refl W
  have hone := hide_ (Sl.one' a0)
  have hwi := hide_ (show I64s who ∧ who.length * 8 ≤ 140737488351232 from ⟨b2, c2⟩)
  have hbw : who.length ≤ 140737488351232 := by omega
  by_cases hst0 : StOk t
  rotate_left
  · have hck := hide_ (show (chk t : Int) = 31 from by rw [chk_no hst0]; rfl)
    clear hst0 a0 a1 a2 b2 c2
    go_enter Try.func8, Try.ntmps8
    go_wp2_with (first
      | go_big_skip
      | (go_at_call 12; refine (tallyAlive_any _).mono ?_; rintro e w7 ⟨rfl, hx⟩; replace hX := hX.trans hx; clear hx)
      | (go_at_call 15; refine (checkB (hs.out.ext hX) hck.out).mono ?_; rintro e w7 ⟨rfl, hx⟩; replace hX := hX.trans hx; clear hx)
      | fail)
    go_ret
    exact Keep.intro ⟨rfl, hX⟩
  have hck := hide_ (show (chk t : Int) = 0 from by rw [chk_ok hst0]; rfl)
  have hst := hide_ hst0
  have hfit := hide_ (show ∀ d ∈ l, d.Fit from Vts.fit a1)
  clear hst0 a0 a1 a2 b2 c2
  by_cases hbig : 60 < l.length
  · have t0 : decide ((60 : Int) < (l.length : Int)) = true := by simp; omega
    clear hbig
    go_enter Try.func8, Try.ntmps8
    go_wp2_with ((first
      | go_big_skip
      | (go_at_call 12; refine (tallyAlive_any _).mono ?_; rintro e w7 ⟨rfl, hx⟩; replace hX := hX.trans hx; clear hx)
      | (go_at_call 15; refine (checkB (hs.out.ext hX) hck.out).mono ?_; rintro e w7 ⟨rfl, hx⟩; replace hX := hX.trans hx; clear hx)
      | ((with_reducible refine at_bi ?_); (try refine w_yes _ _ _ rfl rfl rfl ?_); refine w_rlen Try.elVt _ rfl rfl rfl (hl.out.ext VtR.stays hX) ?_)
      | ((with_reducible refine at_bi ?_); (try refine w_yes _ _ _ rfl rfl rfl ?_); refine i_len _ rfl rfl rfl (hw.out.ext hX) ?_)
      | fail) <;> (try simp only [Act.put, List.setIfInBounds_toArray, List.set_cons_zero, List.set_cons_succ]))
    go_ret
    exact Keep.intro ⟨rfl, hX⟩
  have t0 : decide ((60 : Int) < (l.length : Int)) = false := by simp; omega
  have h60 := hide_ (show l.length ≤ 60 from by omega)
  clear hbig
  by_cases hbig : 20 < who.length
  · have t1 : decide ((20 : Int) < (who.length : Int)) = true := by simp; omega
    clear hbig
    go_enter Try.func8, Try.ntmps8
    go_wp2_with ((first
      | go_big_skip
      | (go_at_call 12; refine (tallyAlive_any _).mono ?_; rintro e w7 ⟨rfl, hx⟩; replace hX := hX.trans hx; clear hx)
      | (go_at_call 15; refine (checkB (hs.out.ext hX) hck.out).mono ?_; rintro e w7 ⟨rfl, hx⟩; replace hX := hX.trans hx; clear hx)
      | ((with_reducible refine at_bi ?_); (try refine w_yes _ _ _ rfl rfl rfl ?_); refine w_rlen Try.elVt _ rfl rfl rfl (hl.out.ext VtR.stays hX) ?_)
      | ((with_reducible refine at_bi ?_); (try refine w_yes _ _ _ rfl rfl rfl ?_); refine i_len _ rfl rfl rfl (hw.out.ext hX) ?_)
      | fail) <;> (try simp only [Act.put, List.setIfInBounds_toArray, List.set_cons_zero, List.set_cons_succ]))
    go_ret
    exact Keep.intro ⟨rfl, hX⟩
  have t1 : decide ((20 : Int) < (who.length : Int)) = false := by simp; omega
  have h20 := hide_ (show who.length ≤ 20 from by omega)
  clear hbig hbw
  go_enter Try.func8, Try.ntmps8
  go_wp2_with ((first
    | go_big_skip
    | (go_at_call 12; refine (tallyAlive_any _).mono ?_; rintro e w7 ⟨rfl, hx⟩; replace hX := hX.trans hx; clear hx)
    | (go_at_call 15; refine (checkB (hs.out.ext hX) hck.out).mono ?_; rintro e w7 ⟨rfl, hx⟩; replace hX := hX.trans hx; clear hx)
    | ((with_reducible refine at_bi ?_); (try refine w_yes _ _ _ rfl rfl rfl ?_); refine w_rlen Try.elVt _ rfl rfl rfl (hl.out.ext VtR.stays hX) ?_)
    | ((with_reducible refine at_bi ?_); (try refine w_yes _ _ _ rfl rfl rfl ?_); refine i_len _ rfl rfl rfl (hw.out.ext hX) ?_)
    | ((with_reducible refine at_lit ?_); refine w_nnew (o := ⟨some 37, _, _, _, _, _⟩) Try.elVtN [] rfl rfl rfl (by simp) rfl (by omega) ?_; intro v37 w5 B hB1 hB2 hx hn; have hnW := hn.mono (G := fun k => W.heap.size ≤ k) (fun k hk => Nat.le_trans hX.size (Nat.le_trans hB1 hk.1)); replace hX := hX.trans hx; clear hx hB1 hB2 hn)
    | fail) <;> (try simp only [Act.put, List.setIfInBounds_toArray, List.set_cons_zero, List.set_cons_succ]))
  go_loopw [40, 7] (fun u40 u7 wr => ∃ i : Nat, u40 = .int .i64 i ∧ i ≤ l.length ∧ RowN (fun k => W.heap.size ≤ k) wr 33 4 u7 ((ofWho who (l.take i)).map vrow) ∧ Ext W wr) (fun i _ _ => l.length - (intOf i).toNat)
  case atStart => exact ⟨0, rfl, Nat.zero_le _, hnW, hX⟩
  case round =>
    clear hX hnW
    obtain ⟨i, rfl, hi, hn7, hX⟩ := hrel
    by_cases hlt0 : i < l.length
    · have hlt := hide_ hlt0
      have tl : decide (i < l.length) = true := decide_eq_true hlt0
      have hi7 : i ≤ 60 := by have := h60.out; omega
      obtain ⟨d, hd0⟩ : ∃ d, l[i] = d := ⟨_, rfl⟩
      have hd := hide_ hd0
      have hstep := hide_ (ofWho_step who hlt0 hd0)
      obtain ⟨M, hM0⟩ : ∃ M, ofWho who (l.take i) = M := ⟨_, rfl⟩
      have hM := hide_ hM0
      have hMl := hide_ (show M.length ≤ 60 from by rw [← hM0]; have h1 := ofWho_len who (l.take i); have h2 := List.length_take_le i l; omega)
      rw [hM0] at hn7
      clear hd0 hlt0 hM0
      go_wp2_with ((first
        | go_big_skip
        | ((with_reducible refine at_idx ?_); refine w_ridx0 (W0 := W) Try.elVt _ _ i VtR.stays rfl rfl rfl rfl hl.out hX hlt.out ?_; rintro pq row hrow hrl hre; obtain ⟨rfl, _⟩ := (congrArg (fun z => VtR W row z) hd.out).mp hre)
        | ((with_reducible refine at_load ?_); refine w_pload Try.stVt _ rfl rfl rfl (hrow.ext hX) hrl ?_)
        | ((with_reducible refine at_alloc ?_); refine w_alloc (o := ⟨some 9, _, _, _, _, _⟩) Try.stVt rfl rfl ?_; intro b9 w4 hg hx4 f9)
        | ((with_reducible refine at_store ?_); refine w_astore Try.stVt (us := vrow d) _ _ rfl rfl rfl rfl rfl f9 rfl rfl (vt_one d) ?_; intro w5 hm5 f5; replace f9 := f5; replace hX := hX.trans (hm5.after hx4 (fun i e => e ▸ hg)); replace hn7 := hn7.ext (hm5.after hx4 (fun i e => e ▸ hg)); clear f5 hm5 hx4 hg hrow)
        | ((with_reducible refine at_bi ?_); refine i_len _ rfl rfl rfl (hw.out.ext hX) ?_)
        | fail) <;> (try simp only [Act.put, List.setIfInBounds_toArray, List.set_cons_zero, List.set_cons_succ]))
      have hX1 := hide_ hX
      have hn1 := hide_ hn7
      have f91 := hide_ f9
      clear hn7 f9
      go_loopw [46, 10] (fun u46 u10 w3 => ∃ j : Nat, u46 = .int .i64 j ∧ u10 = .bool (decide (d.f ∈ who.take j)) ∧ j ≤ who.length ∧ Ext w5 w3) (fun j _ _ => who.length - (intOf j).toNat)
      case atStart => exact ⟨0, rfl, rfl, Nat.zero_le _, Ext.refl _⟩
      case round =>
        clear hX
        obtain ⟨j, rfl, rfl, hj, hY⟩ := hrel
        have hX := hX1.out.trans hY
        have hn7 := hn1.out.ext hY
        have f9 := f91.out.ext hY
        by_cases hlt1 : j < who.length
        · have hltj := hide_ hlt1
          have tl2 : decide (j < who.length) = true := decide_eq_true hlt1
          have hj7 : j ≤ 20 := by have := h20.out; omega
          obtain ⟨x, hx0⟩ : ∃ x, who[j] = x := ⟨_, rfl⟩
          have hx := hide_ hx0
          have hnext := hide_ (mem_take_succ hlt1 hx0 d.f)
          clear hx0 hlt1
          cases c1 : decide (d.f ∈ who.take j)
          · cases c2 : (x == d.f)
            all_goals go_wp2_with ((first
              | go_big_skip
              | ((with_reducible refine at_idx ?_); refine i_idx _ _ j rfl rfl rfl (hw.out.ext hX) rfl hltj.out ?_; intro ad had; replace had := had.trans (congrArg (fun z => some (Value.int .i64 z)) hx.out))
              | (refine w_yes _ _ _ rfl rfl rfl ?_; refine w_field Try.stVt _ _ _ rfl rfl rfl (by omega) ?_)
              | (refine w_yes _ _ _ rfl rfl rfl ?_; refine w_fload _ rfl rfl rfl f9 rfl (agg_of (by kernel_rfl)) ?_)
              | fail) <;> (try simp only [Act.put, List.setIfInBounds_toArray, List.set_cons_zero, List.set_cons_succ]))
            all_goals go_roundw
            all_goals try (case rel => exact ⟨j + 1, by go_num, by rw [hnext.out, c1, c2]; rfl, by have := hltj.out; omega, hY⟩)
            all_goals have := hltj.out; simp [intOf]; omega
          · go_wp2_with ((first
              | go_big_skip
              | ((with_reducible refine at_idx ?_); refine i_idx _ _ j rfl rfl rfl (hw.out.ext hX) rfl hltj.out ?_; intro ad had; replace had := had.trans (congrArg (fun z => some (Value.int .i64 z)) hx.out))
              | fail) <;> (try simp only [Act.put, List.setIfInBounds_toArray, List.set_cons_zero, List.set_cons_succ]))
            go_roundw
            case rel => exact ⟨j + 1, by go_num, by rw [hnext.out, c1]; rfl, by have := hltj.out; omega, hY⟩
            case measure => have := hltj.out; simp [intOf]; omega
        · have tl2 : decide (j < who.length) = false := decide_eq_false hlt1
          have hjl : who.take j = who := List.take_of_length_le (by omega)
          rw [hjl]
          clear hlt1 hjl
          cases c1 : decide (d.f ∈ who)
          · have hs2 := hide_ (show ofWho who (l.take (i + 1)) = M from by rw [hstep.out, if_neg (of_decide_eq_false c1), List.append_nil, hM.out])
            go_wp2
            go_roundw
            case rel => exact ⟨i + 1, by go_num, by have := hlt.out; omega, by rw [hs2.out]; exact hn7, hX⟩
            case measure => have := hlt.out; simp [intOf]; omega
          · have hs2 := hide_ (show ofWho who (l.take (i + 1)) = M ++ [d] from by rw [hstep.out, if_pos (of_decide_eq_true c1), hM.out])
            have hbig2 := hide_ (show ((M.map vrow).length + [vrow d].length) * 32 ≤ 140737488355328 from by have := hMl.out; simp; omega)
            go_wp2_with ((first
              | ((with_reducible refine at_load ?_); refine w_aload (cs := vrow d) Try.stVt _ rfl rfl rfl f9 rfl ?_)
              | ((with_reducible refine at_lit ?_); refine w_nnew (o := ⟨some 61, _, _, _, _, _⟩) Try.elVtN [vrow d] rfl rfl rfl (by intro y hy; simp at hy; subst hy; rfl) rfl (by omega) ?_; intro v66 w7 B7 hB1 hB2 hx hn; have hl7 := hn.slS; replace hn7 := hn7.ext hx; replace hX := hX.trans hx; clear hx hB1 hB2 hn)
              | ((with_reducible refine at_bi ?_); refine w_napp (o := ⟨some 62, _, _, _, _, _⟩) Try.elVtN _ _ rfl rfl rfl rfl hn7 hl7 (by simp) (by intro y hy; simp at hy; subst hy; exact vt_one d) hbig2.out ?_; intro v67 w8 hm8 hn8; replace hn8 := hn8.mono (G := fun k => W.heap.size ≤ k) fun k hk => hk.elim id fun h => Nat.le_trans hX.size h.1; replace hX := hm8.after hX (fun i hi => hi); clear hm8 hn7 f9 hl7)
              | fail) <;> (try simp only [Act.put, List.setIfInBounds_toArray, List.set_cons_zero, List.set_cons_succ]))
            go_roundw
            case rel => exact ⟨i + 1, by go_num, by have := hlt.out; omega, by rw [hs2.out, List.map_append]; exact hn8, hX⟩
            case measure => have := hlt.out; simp [intOf]; omega
    · have hil : i = l.length := by omega
      have tl : decide (i < l.length) = false := decide_eq_false hlt0
      subst hil
      rw [List.take_length] at hn7
      obtain ⟨M, hM0⟩ : ∃ M, ofWho who l = M := ⟨_, rfl⟩
      rw [hM0] at hn7
      have hMl := hide_ (show M.length ≤ 60 from by rw [← hM0]; have h1 := ofWho_len who l; have := h60.out; omega)
      have hMf := hide_ (show ∀ d ∈ M, d.Fit from fun d hd => by rw [← hM0] at hd; exact hfit.out d (List.mem_filter.1 hd).1)
      have hvM := vts_of hn7 hMf.out
      obtain ⟨A, hA0⟩ : ∃ A, ofV (votesOf t.length M) = A := ⟨_, rfl⟩
      have hin := hide_ (show ∀ k w i, A k w i ≠ none → inn who i = true from fun k w i h => by rw [← hA0, ← hM0] at h; exact ofWho_inn k w i h)
      have hA := hide_ hA0
      clear hlt0 hn7 hA0 hM0
      go_wp2_with ((first
        | (go_at_call 16; refine (countedS (hs.out.ext hX) hst.out hvM (by have := hMl.out; omega) hX).mono ?_; rintro e w3 ⟨p1, u1, rfl, hT1, hu1, hx⟩; rw [hA.out] at hT1; have ou1 := hide_ hu1.one; clear hu1; replace hvM := Vts.ext hvM hx; replace hX := hX.trans hx; clear hx)
        | ((with_reducible refine at_ext ?_); refine wpList_runs rfl (runs_extract rfl rfl rfl) ?_; simp only [List.getElem_toArray, List.getElem_cons_succ, List.getElem_cons_zero])
        | ((with_reducible refine at_alloc ?_); refine w_alloc (o := ⟨some 14, _, _, _, _, _⟩) Try.stTy rfl rfl ?_; intro b8 w4 hb8 hx8 f8)
        | ((with_reducible refine at_store ?_); refine w_astore Try.stTy (us := [v0, u1]) _ _ rfl rfl rfl rfl rfl f8 rfl rfl (by intro z hz; simp at hz; rcases hz with rfl | rfl; exact hone.out; exact ou1.out) ?_; intro w5 hm5 _; have hx := hm5.after hx8 (fun i e => by have e' : i = b8 := e; rw [e']; exact hb8); replace hT1 := hT1.ext hx; replace hvM := Vts.ext hvM hx; replace hX := hX.trans hx; clear hx hm5 hx8 hb8 f8)
        | (go_at_call 10; obtain ⟨rA, hrA0⟩ : ∃ rA, A.commOf t = rA := ⟨_, rfl⟩; refine (TComm_any hT1 (by have := hMl.out; omega) hrA0).mono ?_; rintro e w5 ⟨he, hx⟩; obtain ⟨yA, hyA⟩ : ∃ yA, rA.getD 0 = yA := ⟨_, rfl⟩; obtain ⟨qA, hqA⟩ : ∃ qA, rA.isSome = qA := ⟨_, rfl⟩; rw [hyA, hqA] at he; subst he; have hfin := hide_ (show qA = true → most t who = true from fun e => Tab.few_comm hst.out hin.out (by rw [hrA0]; intro e2; rw [e2] at hqA; rw [← hqA] at e; cases e)); clear hyA hqA hrA0; replace hT1 := hT1.ext hx; replace hvM := Vts.ext hvM hx; replace hX := hX.trans hx; clear hx)
        | ((with_reducible refine at_bi ?_); refine w_rlen Try.elVt _ rfl rfl rfl hvM ?_)
        | fail) <;> (try simp only [Act.put, List.setIfInBounds_toArray, List.set_cons_zero, List.set_cons_succ]))
      have hT1' := hide_ hT1
      have hM1 := hide_ (show Recs 4 VtR w5 _ M from hvM)
      have hX1 := hide_ hX
      clear hT1 hvM
      have hT1 := hT1'
      clear hT1'
      go_loopw [78] (fun u78 wr => ∃ i : Nat, u78 = .int .i64 i ∧ i ≤ M.length ∧ Ext w5 wr) (fun i _ => M.length - (intOf i).toNat)
      case atStart => exact ⟨0, rfl, Nat.zero_le _, Ext.refl _⟩
      case round =>
        clear hX
        obtain ⟨i, rfl, hi, hY⟩ := hrel
        have hX := hX1.out.trans hY
        by_cases hlt0 : i < M.length
        · have hlt := hide_ hlt0
          have tl : decide (i < M.length) = true := decide_eq_true hlt0
          have hi7 : i ≤ 60 := by have := hMl.out; omega
          obtain ⟨d, hd0⟩ : ∃ d, M[i] = d := ⟨_, rfl⟩
          have hd := hide_ hd0
          have hdf := hide_ (hd0 ▸ hMf.out _ (List.getElem_mem hlt0) : d.Fit)
          obtain ⟨n1, hn10⟩ : ∃ n1, A.aheadOf t d.w = n1 := ⟨_, rfl⟩
          have hsm := hide_ (show n1 ≠ d.w → some3 t who = true from fun h => Tab.few_ahead hst.out hin.out (by rw [hn10]; exact h))
          have hn1 := hide_ hn10
          obtain ⟨r1, hr10⟩ : ∃ r1, A.mostOf t d.k d.w = r1 := ⟨_, rfl⟩
          have hmo := hide_ (show ∀ y, r1 = some y → most t who = true from fun y e => Tab.few_mst hst.out hin.out ((Tab.mostOf_iff hst.out).1 (hr10.trans e)))
          have hr1 := hide_ hr10
          clear hd0 hlt0 hn10 hr10
          cases r1 with
          | none =>
            go_wp2_with ((first
              | go_big_skip
              | ((with_reducible refine at_idx ?_); refine w_ridx0 (W0 := w5) Try.elVt _ _ i VtR.stays rfl rfl rfl rfl hM1.out hY hlt.out ?_; rintro pq row hrow hrl hre; obtain ⟨rfl, _⟩ := (congrArg (fun z => VtR w5 row z) hd.out).mp hre)
              | ((with_reducible refine at_load ?_); refine w_pload Try.stVt _ rfl rfl rfl (hrow.ext hY) hrl ?_)
              | ((with_reducible refine at_alloc ?_); refine w_alloc (o := ⟨some 19, _, _, _, _, _⟩) Try.stVt rfl rfl ?_; intro b19 w4 hg hx4 f19)
              | ((with_reducible refine at_store ?_); refine w_astore Try.stVt (us := vrow d) _ _ rfl rfl rfl rfl rfl f19 rfl rfl (vt_one d) ?_; intro w6 hm5 f5; replace f19 := f5; replace hX := hX.trans (hm5.after hx4 (fun i e => e ▸ hg)); replace hY := hY.trans (hm5.after hx4 (fun i e => e ▸ hg)); clear f5 hm5 hx4 hg hrow)
              | ((with_reducible refine at_field ?_); refine w_field Try.stVt _ _ _ rfl rfl rfl (by omega) ?_)
              | ((with_reducible refine at_load ?_); refine w_fload _ rfl rfl rfl f19 rfl (agg_of (by kernel_rfl)) ?_)
              | (go_at_call 11; refine (TMost_any (p := p1) (hT1.out.ext hY) (by have := hMl.out; omega) hdf.out.k hdf.out.w hr1.out).mono ?_; rintro e w7 ⟨he, hx⟩; replace he : e = .returned (.tuple #[.int .i64 0, .bool false]) := he; subst he; replace f19 := f19.ext hx; replace hY := hY.trans hx; replace hX := hX.trans hx; clear hx)
              | ((with_reducible refine at_ext ?_); refine wpList_runs rfl (runs_extract rfl rfl rfl) ?_; simp only [List.getElem_toArray, List.getElem_cons_succ, List.getElem_cons_zero])
              | fail) <;> (try simp only [Act.put, List.setIfInBounds_toArray, List.set_cons_zero, List.set_cons_succ]))
            have hT1r := TalS.ext hT1.out hY
            cases hn0 : (n1 != d.w)
            · have hne := hide_ hn0
              refine wp_region_phx (by kernel_rfl) ?_; intro wd hxd; have F19 := f19.ext hxd; have H1 := hT1r.ext hxd; have S0 := (hs.out.ext hX).ext hxd; have S2 := (hw.out.ext hX).ext hxd
              refine Ph.rest 0 22 (by kernel_rfl) ?_
              refine LinL.step (s := (.val (.bool false))) [(21, none)] rfl (by kernel_rfl) (op_out 21 (.bool false) rfl (.inl rfl) rfl) ?_
              refine LinL.step (s := (.val (.bool false))) [(91, some 0)] rfl (by kernel_rfl) (op_copy 91 0 (.val (.bool false)) rfl (.inl rfl) rfl) ?_
              refine LinL.step (s := .val undef) [(0, none), (92, some 0)] rfl (by kernel_rfl) (op_no (reads := [(0, none)]) 1 92 0 true rfl rfl rfl) ?_
              refine LinL.step (s := .val undef) [(2, none), (92, some 1)] rfl (by kernel_rfl) (op_no (reads := [(2, none)]) 1 92 1 true rfl rfl rfl) ?_
              refine LinL.step (s := .val undef) [(93, some 1), (94, some 0), (92, some 2)] rfl (by kernel_rfl) (op_no (reads := [(93, some 1), (94, some 0)]) 1 92 2 true rfl rfl rfl) ?_
              refine LinL.step (s := .val undef) [(95, some 0), (92, some 3)] rfl (by kernel_rfl) (op_no (reads := [(95, some 0)]) 1 92 3 true rfl rfl rfl) ?_
              refine LinL.step (s := (.val (.bool false))) [(92, some 4), (96, some 0)] rfl (by kernel_rfl) (op_runs rfl fun σ w' hx hg => ⟨_, runs_pick_f (ρ := σ.eval) (w := w') (.tmp 92) (.tmp 96) (.const (.bool false)) rfl hg.1 rfl, rfl⟩) ?_
              refine LinL.step (s := (.val (.bool false))) [(97, some 0)] rfl (by kernel_rfl) (op_copy 97 0 (.val (.bool false)) rfl (.inl rfl) rfl) ?_
              refine LinL.step (s := (.val (.pointer (some ⟨p1, 0, none⟩)))) [(13, none), (98, some 0)] rfl (by kernel_rfl) (op_yes (reads := [(13, none)]) 7 98 0 false rfl rfl rfl (op_out 13 (.pointer (some ⟨p1, 0, none⟩)) rfl (.inl rfl) rfl)) ?_
              refine LinL.step (s := (.val (.pointer (some ⟨b19, 1, none⟩)))) [(19, none), (98, some 1)] rfl (by kernel_rfl) (op_yes (reads := [(19, none)]) 7 98 1 false rfl rfl rfl (op_runs rfl fun σ w' hx hg => ⟨_, runs_field (ρ := σ.eval) (w := w') Try.stVt (.tmp 19) b19 1 rfl hg.1 (by omega), rfl⟩)) ?_
              refine LinL.step (s := (.val (.int .i64 d.w))) [(100, some 0), (98, some 2)] rfl (by kernel_rfl) (op_yes (reads := [(100, some 0)]) 7 98 2 false rfl rfl rfl (op_runs rfl fun σ w' hx hg => ⟨_, runs_fload (ρ := σ.eval) (w := w') (.tmp 100) rfl hg.1 (agg_of (by kernel_rfl) _) (F19.ext hx) rfl, rfl⟩)) ?_
              refine LinL.step (s := (.val (.int .i64 n1))) [(99, some 2), (101, some 0), (98, some 3)] rfl (by kernel_rfl) (op_yes (reads := [(99, some 2), (101, some 0)]) 7 98 3 false rfl rfl rfl (op_calls 13 #[(.tmp 99), (.tmp 101)] #[22, 3] (fun σ => #[.pointer (some ⟨p1, 0, none⟩), .int .i64 d.w]) rfl rfl (fun _ _ => rfl) fun σ w' hx hg => ⟨by have h99 : σ.tmps.getD 99 undef = .pointer (some ⟨p1, 0, none⟩) := hg.1; have h101 : σ.tmps.getD 101 undef = .int .i64 d.w := hg.2.1; simp only [List.map_toArray, List.map_cons, List.map_nil, Act.eval, h99, h101], aheadR (H1.ext hx) (by have := hMl.out; omega) hn1.out⟩)) ?_
              refine LinL.step (s := (.val (.pointer (some ⟨b19, 1, none⟩)))) [(19, none), (98, some 4)] rfl (by kernel_rfl) (op_yes (reads := [(19, none)]) 7 98 4 false rfl rfl rfl (op_runs rfl fun σ w' hx hg => ⟨_, runs_field (ρ := σ.eval) (w := w') Try.stVt (.tmp 19) b19 1 rfl hg.1 (by omega), rfl⟩)) ?_
              refine LinL.step (s := (.val (.int .i64 d.w))) [(103, some 0), (98, some 5)] rfl (by kernel_rfl) (op_yes (reads := [(103, some 0)]) 7 98 5 false rfl rfl rfl (op_runs rfl fun σ w' hx hg => ⟨_, runs_fload (ρ := σ.eval) (w := w') (.tmp 103) rfl hg.1 (agg_of (by kernel_rfl) _) (F19.ext hx) rfl, rfl⟩)) ?_
              refine LinL.step (s := (.val (.bool false))) [(102, some 2), (104, some 0), (98, some 6)] rfl (by kernel_rfl) (op_yes (reads := [(102, some 2), (104, some 0)]) 7 98 6 false rfl rfl rfl (op_runs rfl fun σ w' hx hg => ⟨(.bool false), by have h102 : σ.tmps.getD 102 undef = .int .i64 n1 := hg.1; have h104 : σ.tmps.getD 104 undef = .int .i64 d.w := hg.2.1; unfold Runs execOp; simp [Act.eval, h102, h104, go_sem, hne.out], rfl⟩)) ?_
              refine LinL.step (s := (.val (.bool false))) [(105, some 0), (98, some 7)] rfl (by kernel_rfl) (op_yes (reads := [(105, some 0)]) 7 98 7 false rfl rfl rfl (op_copy 105 0 (.val (.bool false)) rfl (.inl rfl) rfl)) ?_
              refine LinL.step (s := .val undef) [(0, none), (106, some 0)] rfl (by kernel_rfl) (op_no (reads := [(0, none)]) 15 106 0 true rfl rfl rfl) ?_
              refine LinL.step (s := .val undef) [(2, none), (106, some 1)] rfl (by kernel_rfl) (op_no (reads := [(2, none)]) 15 106 1 true rfl rfl rfl) ?_
              refine LinL.step (s := .val undef) [(107, some 1), (108, some 0), (106, some 2)] rfl (by kernel_rfl) (op_no (reads := [(107, some 1), (108, some 0)]) 15 106 2 true rfl rfl rfl) ?_
              refine LinL.step (s := .val undef) [(109, some 0), (106, some 3)] rfl (by kernel_rfl) (op_no (reads := [(109, some 0)]) 15 106 3 true rfl rfl rfl) ?_
              refine LinL.step (s := (.val (.bool false))) [(106, some 4), (110, some 0), (98, some 12)] rfl (by kernel_rfl) (op_yes (reads := [(106, some 4), (110, some 0)]) 7 98 12 false rfl rfl rfl (op_runs rfl fun σ w' hx hg => ⟨_, runs_pick_f (ρ := σ.eval) (w := w') (.tmp 106) (.tmp 110) (.const (.bool false)) rfl hg.1 rfl, rfl⟩)) ?_
              refine LinL.step (s := (.val (.bool false))) [(98, some 13), (111, some 0)] rfl (by kernel_rfl) (op_runs rfl fun σ w' hx hg => ⟨_, runs_pick_f (ρ := σ.eval) (w := w') (.tmp 98) (.const (.bool true)) (.tmp 111) rfl hg.1 hg.2.1, rfl⟩) ?_
              intro wN hxN
              simp only [Fin', List.reverse_cons, List.reverse_nil, List.nil_append, List.cons_append, List.drop_zero, List.take_succ_cons, List.take_zero]
              simp only [Act.put, List.setIfInBounds_toArray, List.set_cons_zero, List.set_cons_succ]
              replace hY := hY.trans (hxd.trans hxN)
              replace hX := hX.trans (hxd.trans hxN)
              go_wp2
              go_roundw
              case rel => exact ⟨i + 1, by go_num, by have := hlt.out; omega, hY⟩
              case measure => have := hlt.out; simp [intOf]; omega
            · have hne := hide_ hn0
              have hsome := hide_ (hsm.out (by simpa using hn0))
              refine wp_region_phx (by kernel_rfl) ?_; intro wd hxd; have F19 := f19.ext hxd; have H1 := hT1r.ext hxd; have S0 := (hs.out.ext hX).ext hxd; have S2 := (hw.out.ext hX).ext hxd
              refine Ph.rest 0 22 (by kernel_rfl) ?_
              refine LinL.step (s := (.val (.bool false))) [(21, none)] rfl (by kernel_rfl) (op_out 21 (.bool false) rfl (.inl rfl) rfl) ?_
              refine LinL.step (s := (.val (.bool false))) [(91, some 0)] rfl (by kernel_rfl) (op_copy 91 0 (.val (.bool false)) rfl (.inl rfl) rfl) ?_
              refine LinL.step (s := .val undef) [(0, none), (92, some 0)] rfl (by kernel_rfl) (op_no (reads := [(0, none)]) 1 92 0 true rfl rfl rfl) ?_
              refine LinL.step (s := .val undef) [(2, none), (92, some 1)] rfl (by kernel_rfl) (op_no (reads := [(2, none)]) 1 92 1 true rfl rfl rfl) ?_
              refine LinL.step (s := .val undef) [(93, some 1), (94, some 0), (92, some 2)] rfl (by kernel_rfl) (op_no (reads := [(93, some 1), (94, some 0)]) 1 92 2 true rfl rfl rfl) ?_
              refine LinL.step (s := .val undef) [(95, some 0), (92, some 3)] rfl (by kernel_rfl) (op_no (reads := [(95, some 0)]) 1 92 3 true rfl rfl rfl) ?_
              refine LinL.step (s := (.val (.bool false))) [(92, some 4), (96, some 0)] rfl (by kernel_rfl) (op_runs rfl fun σ w' hx hg => ⟨_, runs_pick_f (ρ := σ.eval) (w := w') (.tmp 92) (.tmp 96) (.const (.bool false)) rfl hg.1 rfl, rfl⟩) ?_
              refine LinL.step (s := (.val (.bool false))) [(97, some 0)] rfl (by kernel_rfl) (op_copy 97 0 (.val (.bool false)) rfl (.inl rfl) rfl) ?_
              refine LinL.step (s := (.val (.pointer (some ⟨p1, 0, none⟩)))) [(13, none), (98, some 0)] rfl (by kernel_rfl) (op_yes (reads := [(13, none)]) 7 98 0 false rfl rfl rfl (op_out 13 (.pointer (some ⟨p1, 0, none⟩)) rfl (.inl rfl) rfl)) ?_
              refine LinL.step (s := (.val (.pointer (some ⟨b19, 1, none⟩)))) [(19, none), (98, some 1)] rfl (by kernel_rfl) (op_yes (reads := [(19, none)]) 7 98 1 false rfl rfl rfl (op_runs rfl fun σ w' hx hg => ⟨_, runs_field (ρ := σ.eval) (w := w') Try.stVt (.tmp 19) b19 1 rfl hg.1 (by omega), rfl⟩)) ?_
              refine LinL.step (s := (.val (.int .i64 d.w))) [(100, some 0), (98, some 2)] rfl (by kernel_rfl) (op_yes (reads := [(100, some 0)]) 7 98 2 false rfl rfl rfl (op_runs rfl fun σ w' hx hg => ⟨_, runs_fload (ρ := σ.eval) (w := w') (.tmp 100) rfl hg.1 (agg_of (by kernel_rfl) _) (F19.ext hx) rfl, rfl⟩)) ?_
              refine LinL.step (s := (.val (.int .i64 n1))) [(99, some 2), (101, some 0), (98, some 3)] rfl (by kernel_rfl) (op_yes (reads := [(99, some 2), (101, some 0)]) 7 98 3 false rfl rfl rfl (op_calls 13 #[(.tmp 99), (.tmp 101)] #[22, 3] (fun σ => #[.pointer (some ⟨p1, 0, none⟩), .int .i64 d.w]) rfl rfl (fun _ _ => rfl) fun σ w' hx hg => ⟨by have h99 : σ.tmps.getD 99 undef = .pointer (some ⟨p1, 0, none⟩) := hg.1; have h101 : σ.tmps.getD 101 undef = .int .i64 d.w := hg.2.1; simp only [List.map_toArray, List.map_cons, List.map_nil, Act.eval, h99, h101], aheadR (H1.ext hx) (by have := hMl.out; omega) hn1.out⟩)) ?_
              refine LinL.step (s := (.val (.pointer (some ⟨b19, 1, none⟩)))) [(19, none), (98, some 4)] rfl (by kernel_rfl) (op_yes (reads := [(19, none)]) 7 98 4 false rfl rfl rfl (op_runs rfl fun σ w' hx hg => ⟨_, runs_field (ρ := σ.eval) (w := w') Try.stVt (.tmp 19) b19 1 rfl hg.1 (by omega), rfl⟩)) ?_
              refine LinL.step (s := (.val (.int .i64 d.w))) [(103, some 0), (98, some 5)] rfl (by kernel_rfl) (op_yes (reads := [(103, some 0)]) 7 98 5 false rfl rfl rfl (op_runs rfl fun σ w' hx hg => ⟨_, runs_fload (ρ := σ.eval) (w := w') (.tmp 103) rfl hg.1 (agg_of (by kernel_rfl) _) (F19.ext hx) rfl, rfl⟩)) ?_
              refine LinL.step (s := (.val (.bool true))) [(102, some 2), (104, some 0), (98, some 6)] rfl (by kernel_rfl) (op_yes (reads := [(102, some 2), (104, some 0)]) 7 98 6 false rfl rfl rfl (op_runs rfl fun σ w' hx hg => ⟨(.bool true), by have h102 : σ.tmps.getD 102 undef = .int .i64 n1 := hg.1; have h104 : σ.tmps.getD 104 undef = .int .i64 d.w := hg.2.1; unfold Runs execOp; simp [Act.eval, h102, h104, go_sem, hne.out], rfl⟩)) ?_
              refine LinL.step (s := (.val (.bool true))) [(105, some 0), (98, some 7)] rfl (by kernel_rfl) (op_yes (reads := [(105, some 0)]) 7 98 7 false rfl rfl rfl (op_copy 105 0 (.val (.bool true)) rfl (.inl rfl) rfl)) ?_
              refine LinL.step (s := (.val (v0))) [(0, none), (106, some 0)] rfl (by kernel_rfl) (op_yes (reads := [(0, none)]) 15 106 0 true rfl rfl rfl (op_out 0 (v0) rfl (.inl rfl) rfl)) ?_
              refine LinL.step (s := (.val (v2))) [(2, none), (106, some 1)] rfl (by kernel_rfl) (op_yes (reads := [(2, none)]) 15 106 1 true rfl rfl rfl (op_out 2 (v2) rfl (.inl rfl) rfl)) ?_
              refine LinL.step (s := (.val (.bool true))) [(107, some 1), (108, some 0), (106, some 2)] rfl (by kernel_rfl) (op_yes (reads := [(107, some 1), (108, some 0)]) 15 106 2 true rfl rfl rfl (op_calls 28 #[(.tmp 107), (.tmp 108)] #[24, 24] (fun σ => #[v0, v2]) rfl rfl (fun _ _ => rfl) fun σ w' hx hg => ⟨by have h107 : σ.tmps.getD 107 undef = v0 := hg.1; have h108 : σ.tmps.getD 108 undef = v2 := hg.2.1; simp only [List.map_toArray, List.map_cons, List.map_nil, Act.eval, h107, h108], rsomeR ⟨hst.out, S0.ext hx, S2.ext hx, hwi.out.1, hwi.out.2⟩ hsome.out⟩)) ?_
              refine LinL.step (s := (.val (.bool false))) [(109, some 0), (106, some 3)] rfl (by kernel_rfl) (op_yes (reads := [(109, some 0)]) 15 106 3 true rfl rfl rfl (op_runs rfl fun σ w' hx hg => ⟨(.bool false), by have h109 : σ.tmps.getD 109 undef = .bool true := hg.1; unfold Runs execOp; simp [Act.eval, h109, go_sem], rfl⟩)) ?_
              refine LinL.step (s := (.val (.bool false))) [(106, some 4), (110, some 0), (98, some 12)] rfl (by kernel_rfl) (op_yes (reads := [(106, some 4), (110, some 0)]) 7 98 12 false rfl rfl rfl (op_runs rfl fun σ w' hx hg => ⟨_, runs_pick_t (ρ := σ.eval) (w := w') (.tmp 106) (.tmp 110) (.const (.bool false)) rfl hg.1 hg.2.1, rfl⟩)) ?_
              refine LinL.step (s := (.val (.bool false))) [(98, some 13), (111, some 0)] rfl (by kernel_rfl) (op_runs rfl fun σ w' hx hg => ⟨_, runs_pick_f (ρ := σ.eval) (w := w') (.tmp 98) (.const (.bool true)) (.tmp 111) rfl hg.1 hg.2.1, rfl⟩) ?_
              intro wN hxN
              simp only [Fin', List.reverse_cons, List.reverse_nil, List.nil_append, List.cons_append, List.drop_zero, List.take_succ_cons, List.take_zero]
              simp only [Act.put, List.setIfInBounds_toArray, List.set_cons_zero, List.set_cons_succ]
              replace hY := hY.trans (hxd.trans hxN)
              replace hX := hX.trans (hxd.trans hxN)
              go_wp2
              go_roundw
              case rel => exact ⟨i + 1, by go_num, by have := hlt.out; omega, hY⟩
              case measure => have := hlt.out; simp [intOf]; omega
          | some y =>
            have hmost := hide_ (hmo.out y rfl)
            go_wp2_with ((first
              | go_big_skip
              | ((with_reducible refine at_idx ?_); refine w_ridx0 (W0 := w5) Try.elVt _ _ i VtR.stays rfl rfl rfl rfl hM1.out hY hlt.out ?_; rintro pq row hrow hrl hre; obtain ⟨rfl, _⟩ := (congrArg (fun z => VtR w5 row z) hd.out).mp hre)
              | ((with_reducible refine at_load ?_); refine w_pload Try.stVt _ rfl rfl rfl (hrow.ext hY) hrl ?_)
              | ((with_reducible refine at_alloc ?_); refine w_alloc (o := ⟨some 19, _, _, _, _, _⟩) Try.stVt rfl rfl ?_; intro b19 w4 hg hx4 f19)
              | ((with_reducible refine at_store ?_); refine w_astore Try.stVt (us := vrow d) _ _ rfl rfl rfl rfl rfl f19 rfl rfl (vt_one d) ?_; intro w6 hm5 f5; replace f19 := f5; replace hX := hX.trans (hm5.after hx4 (fun i e => e ▸ hg)); replace hY := hY.trans (hm5.after hx4 (fun i e => e ▸ hg)); clear f5 hm5 hx4 hg hrow)
              | ((with_reducible refine at_field ?_); refine w_field Try.stVt _ _ _ rfl rfl rfl (by omega) ?_)
              | ((with_reducible refine at_load ?_); refine w_fload _ rfl rfl rfl f19 rfl (agg_of (by kernel_rfl)) ?_)
              | (go_at_call 11; refine (TMost_any (p := p1) (hT1.out.ext hY) (by have := hMl.out; omega) hdf.out.k hdf.out.w hr1.out).mono ?_; rintro e w7 ⟨he, hx⟩; replace he : e = .returned (.tuple #[.int .i64 y, .bool true]) := he; subst he; replace f19 := f19.ext hx; replace hY := hY.trans hx; replace hX := hX.trans hx; clear hx)
              | ((with_reducible refine at_ext ?_); refine wpList_runs rfl (runs_extract rfl rfl rfl) ?_; simp only [List.getElem_toArray, List.getElem_cons_succ, List.getElem_cons_zero])
              | fail) <;> (try simp only [Act.put, List.setIfInBounds_toArray, List.set_cons_zero, List.set_cons_succ]))
            have hT1r := TalS.ext hT1.out hY
            cases hn0 : (n1 != d.w)
            · have hne := hide_ hn0
              refine wp_region_phx (by kernel_rfl) ?_; intro wd hxd; have F19 := f19.ext hxd; have H1 := hT1r.ext hxd; have S0 := (hs.out.ext hX).ext hxd; have S2 := (hw.out.ext hX).ext hxd
              refine Ph.rest 0 22 (by kernel_rfl) ?_
              refine LinL.step (s := (.val (.bool true))) [(21, none)] rfl (by kernel_rfl) (op_out 21 (.bool true) rfl (.inl rfl) rfl) ?_
              refine LinL.step (s := (.val (.bool true))) [(91, some 0)] rfl (by kernel_rfl) (op_copy 91 0 (.val (.bool true)) rfl (.inl rfl) rfl) ?_
              refine LinL.step (s := (.val (v0))) [(0, none), (92, some 0)] rfl (by kernel_rfl) (op_yes (reads := [(0, none)]) 1 92 0 true rfl rfl rfl (op_out 0 (v0) rfl (.inl rfl) rfl)) ?_
              refine LinL.step (s := (.val (v2))) [(2, none), (92, some 1)] rfl (by kernel_rfl) (op_yes (reads := [(2, none)]) 1 92 1 true rfl rfl rfl (op_out 2 (v2) rfl (.inl rfl) rfl)) ?_
              refine LinL.step (s := (.val (.bool true))) [(93, some 1), (94, some 0), (92, some 2)] rfl (by kernel_rfl) (op_yes (reads := [(93, some 1), (94, some 0)]) 1 92 2 true rfl rfl rfl (op_calls 27 #[(.tmp 93), (.tmp 94)] #[24, 24] (fun σ => #[v0, v2]) rfl rfl (fun _ _ => rfl) fun σ w' hx hg => ⟨by have h93 : σ.tmps.getD 93 undef = v0 := hg.1; have h94 : σ.tmps.getD 94 undef = v2 := hg.2.1; simp only [List.map_toArray, List.map_cons, List.map_nil, Act.eval, h93, h94], rmostR ⟨hst.out, S0.ext hx, S2.ext hx, hwi.out.1, hwi.out.2⟩ hmost.out⟩)) ?_
              refine LinL.step (s := (.val (.bool false))) [(95, some 0), (92, some 3)] rfl (by kernel_rfl) (op_yes (reads := [(95, some 0)]) 1 92 3 true rfl rfl rfl (op_runs rfl fun σ w' hx hg => ⟨(.bool false), by have h95 : σ.tmps.getD 95 undef = .bool true := hg.1; unfold Runs execOp; simp [Act.eval, h95, go_sem], rfl⟩)) ?_
              refine LinL.step (s := (.val (.bool false))) [(92, some 4), (96, some 0)] rfl (by kernel_rfl) (op_runs rfl fun σ w' hx hg => ⟨_, runs_pick_t (ρ := σ.eval) (w := w') (.tmp 92) (.tmp 96) (.const (.bool false)) rfl hg.1 hg.2.1, rfl⟩) ?_
              refine LinL.step (s := (.val (.bool false))) [(97, some 0)] rfl (by kernel_rfl) (op_copy 97 0 (.val (.bool false)) rfl (.inl rfl) rfl) ?_
              refine LinL.step (s := (.val (.pointer (some ⟨p1, 0, none⟩)))) [(13, none), (98, some 0)] rfl (by kernel_rfl) (op_yes (reads := [(13, none)]) 7 98 0 false rfl rfl rfl (op_out 13 (.pointer (some ⟨p1, 0, none⟩)) rfl (.inl rfl) rfl)) ?_
              refine LinL.step (s := (.val (.pointer (some ⟨b19, 1, none⟩)))) [(19, none), (98, some 1)] rfl (by kernel_rfl) (op_yes (reads := [(19, none)]) 7 98 1 false rfl rfl rfl (op_runs rfl fun σ w' hx hg => ⟨_, runs_field (ρ := σ.eval) (w := w') Try.stVt (.tmp 19) b19 1 rfl hg.1 (by omega), rfl⟩)) ?_
              refine LinL.step (s := (.val (.int .i64 d.w))) [(100, some 0), (98, some 2)] rfl (by kernel_rfl) (op_yes (reads := [(100, some 0)]) 7 98 2 false rfl rfl rfl (op_runs rfl fun σ w' hx hg => ⟨_, runs_fload (ρ := σ.eval) (w := w') (.tmp 100) rfl hg.1 (agg_of (by kernel_rfl) _) (F19.ext hx) rfl, rfl⟩)) ?_
              refine LinL.step (s := (.val (.int .i64 n1))) [(99, some 2), (101, some 0), (98, some 3)] rfl (by kernel_rfl) (op_yes (reads := [(99, some 2), (101, some 0)]) 7 98 3 false rfl rfl rfl (op_calls 13 #[(.tmp 99), (.tmp 101)] #[22, 3] (fun σ => #[.pointer (some ⟨p1, 0, none⟩), .int .i64 d.w]) rfl rfl (fun _ _ => rfl) fun σ w' hx hg => ⟨by have h99 : σ.tmps.getD 99 undef = .pointer (some ⟨p1, 0, none⟩) := hg.1; have h101 : σ.tmps.getD 101 undef = .int .i64 d.w := hg.2.1; simp only [List.map_toArray, List.map_cons, List.map_nil, Act.eval, h99, h101], aheadR (H1.ext hx) (by have := hMl.out; omega) hn1.out⟩)) ?_
              refine LinL.step (s := (.val (.pointer (some ⟨b19, 1, none⟩)))) [(19, none), (98, some 4)] rfl (by kernel_rfl) (op_yes (reads := [(19, none)]) 7 98 4 false rfl rfl rfl (op_runs rfl fun σ w' hx hg => ⟨_, runs_field (ρ := σ.eval) (w := w') Try.stVt (.tmp 19) b19 1 rfl hg.1 (by omega), rfl⟩)) ?_
              refine LinL.step (s := (.val (.int .i64 d.w))) [(103, some 0), (98, some 5)] rfl (by kernel_rfl) (op_yes (reads := [(103, some 0)]) 7 98 5 false rfl rfl rfl (op_runs rfl fun σ w' hx hg => ⟨_, runs_fload (ρ := σ.eval) (w := w') (.tmp 103) rfl hg.1 (agg_of (by kernel_rfl) _) (F19.ext hx) rfl, rfl⟩)) ?_
              refine LinL.step (s := (.val (.bool false))) [(102, some 2), (104, some 0), (98, some 6)] rfl (by kernel_rfl) (op_yes (reads := [(102, some 2), (104, some 0)]) 7 98 6 false rfl rfl rfl (op_runs rfl fun σ w' hx hg => ⟨(.bool false), by have h102 : σ.tmps.getD 102 undef = .int .i64 n1 := hg.1; have h104 : σ.tmps.getD 104 undef = .int .i64 d.w := hg.2.1; unfold Runs execOp; simp [Act.eval, h102, h104, go_sem, hne.out], rfl⟩)) ?_
              refine LinL.step (s := (.val (.bool false))) [(105, some 0), (98, some 7)] rfl (by kernel_rfl) (op_yes (reads := [(105, some 0)]) 7 98 7 false rfl rfl rfl (op_copy 105 0 (.val (.bool false)) rfl (.inl rfl) rfl)) ?_
              refine LinL.step (s := .val undef) [(0, none), (106, some 0)] rfl (by kernel_rfl) (op_no (reads := [(0, none)]) 15 106 0 true rfl rfl rfl) ?_
              refine LinL.step (s := .val undef) [(2, none), (106, some 1)] rfl (by kernel_rfl) (op_no (reads := [(2, none)]) 15 106 1 true rfl rfl rfl) ?_
              refine LinL.step (s := .val undef) [(107, some 1), (108, some 0), (106, some 2)] rfl (by kernel_rfl) (op_no (reads := [(107, some 1), (108, some 0)]) 15 106 2 true rfl rfl rfl) ?_
              refine LinL.step (s := .val undef) [(109, some 0), (106, some 3)] rfl (by kernel_rfl) (op_no (reads := [(109, some 0)]) 15 106 3 true rfl rfl rfl) ?_
              refine LinL.step (s := (.val (.bool false))) [(106, some 4), (110, some 0), (98, some 12)] rfl (by kernel_rfl) (op_yes (reads := [(106, some 4), (110, some 0)]) 7 98 12 false rfl rfl rfl (op_runs rfl fun σ w' hx hg => ⟨_, runs_pick_f (ρ := σ.eval) (w := w') (.tmp 106) (.tmp 110) (.const (.bool false)) rfl hg.1 rfl, rfl⟩)) ?_
              refine LinL.step (s := (.val (.bool false))) [(98, some 13), (111, some 0)] rfl (by kernel_rfl) (op_runs rfl fun σ w' hx hg => ⟨_, runs_pick_f (ρ := σ.eval) (w := w') (.tmp 98) (.const (.bool true)) (.tmp 111) rfl hg.1 hg.2.1, rfl⟩) ?_
              intro wN hxN
              simp only [Fin', List.reverse_cons, List.reverse_nil, List.nil_append, List.cons_append, List.drop_zero, List.take_succ_cons, List.take_zero]
              simp only [Act.put, List.setIfInBounds_toArray, List.set_cons_zero, List.set_cons_succ]
              replace hY := hY.trans (hxd.trans hxN)
              replace hX := hX.trans (hxd.trans hxN)
              go_wp2
              go_roundw
              case rel => exact ⟨i + 1, by go_num, by have := hlt.out; omega, hY⟩
              case measure => have := hlt.out; simp [intOf]; omega
            · have hne := hide_ hn0
              have hsome := hide_ (hsm.out (by simpa using hn0))
              refine wp_region_phx (by kernel_rfl) ?_; intro wd hxd; have F19 := f19.ext hxd; have H1 := hT1r.ext hxd; have S0 := (hs.out.ext hX).ext hxd; have S2 := (hw.out.ext hX).ext hxd
              refine Ph.rest 0 22 (by kernel_rfl) ?_
              refine LinL.step (s := (.val (.bool true))) [(21, none)] rfl (by kernel_rfl) (op_out 21 (.bool true) rfl (.inl rfl) rfl) ?_
              refine LinL.step (s := (.val (.bool true))) [(91, some 0)] rfl (by kernel_rfl) (op_copy 91 0 (.val (.bool true)) rfl (.inl rfl) rfl) ?_
              refine LinL.step (s := (.val (v0))) [(0, none), (92, some 0)] rfl (by kernel_rfl) (op_yes (reads := [(0, none)]) 1 92 0 true rfl rfl rfl (op_out 0 (v0) rfl (.inl rfl) rfl)) ?_
              refine LinL.step (s := (.val (v2))) [(2, none), (92, some 1)] rfl (by kernel_rfl) (op_yes (reads := [(2, none)]) 1 92 1 true rfl rfl rfl (op_out 2 (v2) rfl (.inl rfl) rfl)) ?_
              refine LinL.step (s := (.val (.bool true))) [(93, some 1), (94, some 0), (92, some 2)] rfl (by kernel_rfl) (op_yes (reads := [(93, some 1), (94, some 0)]) 1 92 2 true rfl rfl rfl (op_calls 27 #[(.tmp 93), (.tmp 94)] #[24, 24] (fun σ => #[v0, v2]) rfl rfl (fun _ _ => rfl) fun σ w' hx hg => ⟨by have h93 : σ.tmps.getD 93 undef = v0 := hg.1; have h94 : σ.tmps.getD 94 undef = v2 := hg.2.1; simp only [List.map_toArray, List.map_cons, List.map_nil, Act.eval, h93, h94], rmostR ⟨hst.out, S0.ext hx, S2.ext hx, hwi.out.1, hwi.out.2⟩ hmost.out⟩)) ?_
              refine LinL.step (s := (.val (.bool false))) [(95, some 0), (92, some 3)] rfl (by kernel_rfl) (op_yes (reads := [(95, some 0)]) 1 92 3 true rfl rfl rfl (op_runs rfl fun σ w' hx hg => ⟨(.bool false), by have h95 : σ.tmps.getD 95 undef = .bool true := hg.1; unfold Runs execOp; simp [Act.eval, h95, go_sem], rfl⟩)) ?_
              refine LinL.step (s := (.val (.bool false))) [(92, some 4), (96, some 0)] rfl (by kernel_rfl) (op_runs rfl fun σ w' hx hg => ⟨_, runs_pick_t (ρ := σ.eval) (w := w') (.tmp 92) (.tmp 96) (.const (.bool false)) rfl hg.1 hg.2.1, rfl⟩) ?_
              refine LinL.step (s := (.val (.bool false))) [(97, some 0)] rfl (by kernel_rfl) (op_copy 97 0 (.val (.bool false)) rfl (.inl rfl) rfl) ?_
              refine LinL.step (s := (.val (.pointer (some ⟨p1, 0, none⟩)))) [(13, none), (98, some 0)] rfl (by kernel_rfl) (op_yes (reads := [(13, none)]) 7 98 0 false rfl rfl rfl (op_out 13 (.pointer (some ⟨p1, 0, none⟩)) rfl (.inl rfl) rfl)) ?_
              refine LinL.step (s := (.val (.pointer (some ⟨b19, 1, none⟩)))) [(19, none), (98, some 1)] rfl (by kernel_rfl) (op_yes (reads := [(19, none)]) 7 98 1 false rfl rfl rfl (op_runs rfl fun σ w' hx hg => ⟨_, runs_field (ρ := σ.eval) (w := w') Try.stVt (.tmp 19) b19 1 rfl hg.1 (by omega), rfl⟩)) ?_
              refine LinL.step (s := (.val (.int .i64 d.w))) [(100, some 0), (98, some 2)] rfl (by kernel_rfl) (op_yes (reads := [(100, some 0)]) 7 98 2 false rfl rfl rfl (op_runs rfl fun σ w' hx hg => ⟨_, runs_fload (ρ := σ.eval) (w := w') (.tmp 100) rfl hg.1 (agg_of (by kernel_rfl) _) (F19.ext hx) rfl, rfl⟩)) ?_
              refine LinL.step (s := (.val (.int .i64 n1))) [(99, some 2), (101, some 0), (98, some 3)] rfl (by kernel_rfl) (op_yes (reads := [(99, some 2), (101, some 0)]) 7 98 3 false rfl rfl rfl (op_calls 13 #[(.tmp 99), (.tmp 101)] #[22, 3] (fun σ => #[.pointer (some ⟨p1, 0, none⟩), .int .i64 d.w]) rfl rfl (fun _ _ => rfl) fun σ w' hx hg => ⟨by have h99 : σ.tmps.getD 99 undef = .pointer (some ⟨p1, 0, none⟩) := hg.1; have h101 : σ.tmps.getD 101 undef = .int .i64 d.w := hg.2.1; simp only [List.map_toArray, List.map_cons, List.map_nil, Act.eval, h99, h101], aheadR (H1.ext hx) (by have := hMl.out; omega) hn1.out⟩)) ?_
              refine LinL.step (s := (.val (.pointer (some ⟨b19, 1, none⟩)))) [(19, none), (98, some 4)] rfl (by kernel_rfl) (op_yes (reads := [(19, none)]) 7 98 4 false rfl rfl rfl (op_runs rfl fun σ w' hx hg => ⟨_, runs_field (ρ := σ.eval) (w := w') Try.stVt (.tmp 19) b19 1 rfl hg.1 (by omega), rfl⟩)) ?_
              refine LinL.step (s := (.val (.int .i64 d.w))) [(103, some 0), (98, some 5)] rfl (by kernel_rfl) (op_yes (reads := [(103, some 0)]) 7 98 5 false rfl rfl rfl (op_runs rfl fun σ w' hx hg => ⟨_, runs_fload (ρ := σ.eval) (w := w') (.tmp 103) rfl hg.1 (agg_of (by kernel_rfl) _) (F19.ext hx) rfl, rfl⟩)) ?_
              refine LinL.step (s := (.val (.bool true))) [(102, some 2), (104, some 0), (98, some 6)] rfl (by kernel_rfl) (op_yes (reads := [(102, some 2), (104, some 0)]) 7 98 6 false rfl rfl rfl (op_runs rfl fun σ w' hx hg => ⟨(.bool true), by have h102 : σ.tmps.getD 102 undef = .int .i64 n1 := hg.1; have h104 : σ.tmps.getD 104 undef = .int .i64 d.w := hg.2.1; unfold Runs execOp; simp [Act.eval, h102, h104, go_sem, hne.out], rfl⟩)) ?_
              refine LinL.step (s := (.val (.bool true))) [(105, some 0), (98, some 7)] rfl (by kernel_rfl) (op_yes (reads := [(105, some 0)]) 7 98 7 false rfl rfl rfl (op_copy 105 0 (.val (.bool true)) rfl (.inl rfl) rfl)) ?_
              refine LinL.step (s := (.val (v0))) [(0, none), (106, some 0)] rfl (by kernel_rfl) (op_yes (reads := [(0, none)]) 15 106 0 true rfl rfl rfl (op_out 0 (v0) rfl (.inl rfl) rfl)) ?_
              refine LinL.step (s := (.val (v2))) [(2, none), (106, some 1)] rfl (by kernel_rfl) (op_yes (reads := [(2, none)]) 15 106 1 true rfl rfl rfl (op_out 2 (v2) rfl (.inl rfl) rfl)) ?_
              refine LinL.step (s := (.val (.bool true))) [(107, some 1), (108, some 0), (106, some 2)] rfl (by kernel_rfl) (op_yes (reads := [(107, some 1), (108, some 0)]) 15 106 2 true rfl rfl rfl (op_calls 28 #[(.tmp 107), (.tmp 108)] #[24, 24] (fun σ => #[v0, v2]) rfl rfl (fun _ _ => rfl) fun σ w' hx hg => ⟨by have h107 : σ.tmps.getD 107 undef = v0 := hg.1; have h108 : σ.tmps.getD 108 undef = v2 := hg.2.1; simp only [List.map_toArray, List.map_cons, List.map_nil, Act.eval, h107, h108], rsomeR ⟨hst.out, S0.ext hx, S2.ext hx, hwi.out.1, hwi.out.2⟩ hsome.out⟩)) ?_
              refine LinL.step (s := (.val (.bool false))) [(109, some 0), (106, some 3)] rfl (by kernel_rfl) (op_yes (reads := [(109, some 0)]) 15 106 3 true rfl rfl rfl (op_runs rfl fun σ w' hx hg => ⟨(.bool false), by have h109 : σ.tmps.getD 109 undef = .bool true := hg.1; unfold Runs execOp; simp [Act.eval, h109, go_sem], rfl⟩)) ?_
              refine LinL.step (s := (.val (.bool false))) [(106, some 4), (110, some 0), (98, some 12)] rfl (by kernel_rfl) (op_yes (reads := [(106, some 4), (110, some 0)]) 7 98 12 false rfl rfl rfl (op_runs rfl fun σ w' hx hg => ⟨_, runs_pick_t (ρ := σ.eval) (w := w') (.tmp 106) (.tmp 110) (.const (.bool false)) rfl hg.1 hg.2.1, rfl⟩)) ?_
              refine LinL.step (s := (.val (.bool false))) [(98, some 13), (111, some 0)] rfl (by kernel_rfl) (op_runs rfl fun σ w' hx hg => ⟨_, runs_pick_f (ρ := σ.eval) (w := w') (.tmp 98) (.const (.bool true)) (.tmp 111) rfl hg.1 hg.2.1, rfl⟩) ?_
              intro wN hxN
              simp only [Fin', List.reverse_cons, List.reverse_nil, List.nil_append, List.cons_append, List.drop_zero, List.take_succ_cons, List.take_zero]
              simp only [Act.put, List.setIfInBounds_toArray, List.set_cons_zero, List.set_cons_succ]
              replace hY := hY.trans (hxd.trans hxN)
              replace hX := hX.trans (hxd.trans hxN)
              go_wp2
              go_roundw
              case rel => exact ⟨i + 1, by go_num, by have := hlt.out; omega, hY⟩
              case measure => have := hlt.out; simp [intOf]; omega
        · have tl : decide (i < M.length) = false := decide_eq_false hlt0
          clear hlt0
          cases qA
          · go_wp2
            go_ret
            exact Keep.intro ⟨rfl, hX⟩
          · have hmost := hide_ (hfin.out rfl)
            go_wp2_with (first
              | (go_at_call 27; refine (rmostR ⟨hst.out, hs.out.ext hX, hw.out.ext hX, hwi.out.1, hwi.out.2⟩ hmost.out).mono ?_; rintro e w7 ⟨z, rfl, hx, hz⟩; replace hz : z = .bool true := hz; subst hz; replace hX := hX.trans hx; clear hx)
              | fail)
            go_ret
            exact Keep.intro ⟨rfl, hX⟩

set_option maxRecDepth 100000 in
theorem tallyFew_lifted (os : Os) (started : os.Started) (H : Type) (enc : TypeId × Value → H) :
    ReturnsInHanded {} Try.checked os 8 .any (Rows.tallyFewSpec.pre6 enc Try.prog Try.f8 Rows.tallyFewRow.domain false) (Rows.tallyFewSpec.post enc Try.prog Try.f8 false true false false) := by
  refine law_lifted (s := Rows.tallyFewSpec) (conds := Rows.tallyFewRow.domain) Try.func8 (by kernel_rfl) rfl (fun H ds h => by
      rw [show Try.f8.params.size = 3 from rfl] at h
      match ds, h with
      | [d0, d1, d2], _ => rfl) rfl rfl (by decide +kernel) os started H enc
    (ChangeSpec.witness6 (enc := enc) (C := Try.checked) false ⟨#[], #[.slice none 0 0, .slice none 0 0, .slice none 0 0], []⟩ 8 (by kernel_rfl) (by kernel_rfl) (by kernel_rfl) (by kernel_rfl)) ?_
  intro W base args ds p hval hA hsz _
  have hp : Try.f8.params.toList = [24, 31, 24] := rfl
  rw [hp] at hA hsz
  obtain ⟨v0, v1, v2, d0, d1, d2, p0, p1, p2, rfl, rfl, rfl, h0, h1, h2⟩ := trodAll_three hA
  obtain ⟨l0, a0, b0, c0⟩ := arg_ints hsz (j := 0) rfl rfl (hval 0 24 v0 rfl rfl) h0
  obtain ⟨l1, a1⟩ := arg_Vts hsz (j := 1) rfl rfl (hval 1 31 v1 rfl rfl) h1
  obtain ⟨l2, a2, b2, c2⟩ := arg_ints hsz (j := 2) rfl rfl (hval 2 24 v2 rfl rfl) h2
  exact tallyFew_law v0 v1 v2 l0 l1 l2 W a0 a1 a2 b2 c2

theorem tallyFew_holds : Rows.TallyFewSaid :=
  OpenClaim.holds_of_wide 8 Try.f8 rfl rfl rfl rfl rfl rfl rfl ⟨rfl, rfl, rfl, rfl, rfl⟩ rfl rfl rfl rfl rfl (by kernel_rfl) Try.func8 (by kernel_rfl)
    (of_decide_eq_true (by kernel_rfl)) (by unfold Func.isWrapper; first | (rw [if_pos (by decide +kernel)]; kernel_rfl) | (rw [if_neg (by decide +kernel)]; exact ⟨rfl, rfl⟩))
    (fun os started H enc _ => tallyFew_lifted os started H enc)
#print axioms tallyFew_holds

end Go.Proofs.Ytmhmkaginnddeaa
