/- The document's pool: one more. -/
import Derived.Test.YtdacclcaopmalaaMemF
namespace Go.Proofs.Ytdacclcaopmalaa
set_option maxRecDepth 100000
open Go.RowKit

/-- v[:j] of an owned slice of transactions. -/
theorem w_oto {ops : Array Oper} {rest : List Oper} {o : Oper} {a : Act} {Q : Exit → Act → World → Prop} {w : World} {lo : Nat} {v : Value} {l : List TxD} (x y : Operand) (j : Nat) (hgd : o.guard = none) (ho : o.op = .slice 23 x none (some y) none) (hv : a.eval x = v) (hy : a.eval y = .int .i64 (j : Int)) (h : OwnT lo w v l) (hj : j ≤ l.length) (h0 : 0 < j)
    (k : ∀ v', OwnT lo w v' (l.take j) → (∀ q, v'.ownBlock = some q → v.ownBlock = some q) → wpList Try.prog ops Q rest (a.put o.dst v') w) : wpList Try.prog ops Q (o :: rest) a w := by
  rcases h.own.split with ⟨_, hh⟩ | ⟨g, cap, cs, hve, hFg, hB, hcl, hnc, hcm, ht⟩
  · have := congrArg List.length hh
    rw [List.length_map] at this
    have h2 : ([] : List (List Value)).length = 0 := rfl
    omega
  rw [List.length_map] at hve hnc ht
  have hl2 : ((l.take j).map TxD.row).length = j := by rw [List.length_map, List.length_take]; omega
  refine wpList_runs hgd (runs_sto Try.elTx x y ho (hv.trans hve) hy (by omega)) (k _ ⟨?_, fun t ht' => h.raw t (List.mem_of_mem_take ht'), fun q hq => h.new q (by rw [hve]; exact hq)⟩ fun q hq => by rw [hve]; exact hq)
  have hr := RowN.ofBlk (F := fun q => (Value.slice (some ⟨g, 0, none⟩) j cap).ownBlock = some q) (rows := (l.take j).map TxD.row) (n := 2) hB hcl (by rw [hl2]; omega) hcm (txrow_len _) (by
    rw [hl2, List.map_take, ← flat_take (txrow_len l), ← ht, List.take_take]; congr 1; omega) rfl
  rw [hl2] at hr
  exact hr
/-- How far the document is. -/
def stA (l : List TxD) (t : TxD) (k : Nat) : List TxD × Bool := if Mem.plc l t < k then (Mem.insAt (l.take k) (Mem.plc l t) t, true) else (l.take k, false)
section
variable {l X : List TxD} {t d : TxD} {k : Nat}
theorem stA_len {b : Bool} (h : stA l t k = (X, b)) (hk : k ≤ l.length) : X.length ≤ k + 1 := by
  unfold stA at h
  split at h
  · injection h with h1 _
    rw [← h1, Mem.insAt_len, List.length_take]; omega
  · injection h with h1 _
    rw [← h1, List.length_take]; omega
theorem stA_t (h : stA l t k = (X, true)) (hd : l[k]? = some d) : stA l t (k + 1) = (X ++ [d], true) := by
  unfold stA at h ⊢
  split at h
  · rename_i hm
    injection h with h1 _
    rw [if_pos (by omega), ← h1, Mem.take_insAt (by omega) hd]
  · cases h
theorem stA_f1 (h : stA l t k = (X, false)) (hd : l[k]? = some d) (hn : d.id ≠ t.id) (hl : TxD.less t d = true) : stA l t (k + 1) = (X ++ [t] ++ [d], true) := by
  unfold stA at h ⊢
  split at h
  · cases h
  · rename_i hm
    injection h with h1 _
    have h2 := Mem.less_at (t := t) hn hd (by omega)
    rw [hl] at h2
    have he : k = Mem.plc l t := by simpa using h2.symm
    rw [if_pos (by omega), ← h1, ← he, Mem.insAt_end hd]
theorem stA_f2 (h : stA l t k = (X, false)) (hd : l[k]? = some d) (hn : d.id ≠ t.id) (hl : TxD.less t d = false) : stA l t (k + 1) = (X ++ [d], false) := by
  unfold stA at h ⊢
  split at h
  · cases h
  · rename_i hm
    injection h with h1 _
    have h2 := Mem.less_at (t := t) hn hd (by omega)
    rw [hl] at h2
    have he : k ≠ Mem.plc l t := by simpa using h2.symm
    rw [if_neg (by omega), ← h1, List.take_add_one, hd]; rfl
theorem noId_succ (h : Mem.hasId (l.take k) t.id = false) (hd : l[k]? = some d) (hn : d.id ≠ t.id) : Mem.hasId (l.take (k + 1)) t.id = false := by
  rw [Mem.hasId_no] at h ⊢
  intro x hx
  rw [List.take_add_one, hd] at hx
  rcases List.mem_append.1 hx with hx | hx
  · exact h x hx
  · simp at hx; subst hx; exact hn
theorem stA_end_t (h : stA l t l.length = (X, true)) : X = Mem.insAt l (Mem.plc l t) t ∧ X.length = l.length + 1 ∧ Mem.plc l t < l.length := by
  unfold stA at h
  split at h
  · rename_i hm
    injection h with h1 _
    rw [List.take_length] at h1
    exact ⟨h1.symm, by rw [← h1, Mem.insAt_len], hm⟩
  · cases h
theorem stA_end_f (h : stA l t l.length = (X, false)) : X = l ∧ Mem.plc l t = l.length := by
  unfold stA at h
  split at h
  · cases h
  · rename_i hm
    injection h with h1 _
    rw [List.take_length] at h1
    exact ⟨h1.symm, by have := Mem.plc_le l t; omega⟩
end

set_option maxRecDepth 100000 in
set_option maxHeartbeats 6400000 in
theorem refAdd9 {lo : Nat} {w : World} {v : Value} {l : List TxD} {t : TxD} (h0 : OwnT lo w v l) (hlo : lo ≤ w.heap.size) (hok : Mem.Ok l) (htraw : t.Raw) :
    Calls Try.prog 16 #[v, .agg #[.int .i64 t.id, .int .i64 t.fee]] w fun e w' => ∃ v', e = .returned (.tuple #[v', .int .i64 (Mem.add l t).2]) ∧ OwnT lo w' v' (Mem.add l t).1 ∧ (∀ k, v'.ownBlock = some k → v.ownBlock = some k ∨ w.heap.size ≤ k) ∧ Ext w w' := by
  refine calls_keep ?_
  have hown := hide_ h0
  have hr := hide_ h0.recs
  have htr := hide_ htraw
  have hfew := hide_ hok.few
  have hlo' := hide_ hlo
  by_cases hR : t.Right
  rotate_left
  · have ha := hide_ (Mem.add_c1 (l := l) hR)
    have hdec := hide_ (decide_eq_false hR)
    clear hR hok h0 htraw
    go_enter Try.func16, Try.ntmps16
    go_wp2_with ((first
      | (go_at_call 21; refine (refRight_any t _).mono ?_; rintro e w4 ⟨rfl, hx⟩; rw [hdec.out]; replace f3 := f3.ext hx; replace hXr := hXr.trans hx; clear hx)
      | ((with_reducible refine at_box ?_); refine w_box _ [.int .i64 t.id, .int .i64 t.fee] rfl rfl rfl rfl ?_; intro g3 w1 hg3 hXr f3)
      | ((with_reducible refine at_load ?_); (try refine w_yes _ _ _ rfl rfl rfl ?_); refine w_aload Try.stTx (.tmp 3) rfl rfl rfl f3 rfl ?_)
      | fail) <;> (try simp only [Act.put, List.setIfInBounds_toArray, List.set_cons_zero, List.set_cons_succ]))
    go_ret2
    exact Keep.intro ⟨v, by rw [ha.out]; rfl, by rw [ha.out]; exact hown.out.ext hXr, fun k hk => .inl hk, hXr⟩
  have hdec := hide_ (decide_eq_true hR)
  have hc2 := hide_ (fun h => Mem.add_c2 (l := l) hR h)
  have hc3 := hide_ (fun h => Mem.add_c3 (l := l) hR h)
  clear hR hok h0 htraw
  go_enter Try.func16, Try.ntmps16
  go_wp2_with ((first
    | (go_at_call 21; refine (refRight_any t _).mono ?_; rintro e w4 ⟨rfl, hx⟩; rw [hdec.out]; replace f3 := f3.ext hx; replace hXr := hXr.trans hx; clear hx)
    | ((with_reducible refine at_box ?_); refine w_box _ [.int .i64 t.id, .int .i64 t.fee] rfl rfl rfl rfl ?_; intro g3 w1 hg3 hXr f3)
    | ((with_reducible refine at_lit ?_); refine w_nnew Try.elTxN [] rfl rfl rfl (by simp) rfl (by omega) ?_; intro v0 w3 B hB1 hB2 hx3 hn0; have ho := OwnT.of (lo := B) (l := []) hn0 (by simp) (fun k h => And.left h); have hgB := hide_ (show g3 < B from Nat.lt_of_lt_of_le f3.lt hB1); have hwB := hide_ (Nat.le_trans hXr.size hB1); have hBs := hB2; replace f3 := f3.ext hx3; replace hXr := hXr.trans hx3; clear hn0 hx3 hB1 hB2)
    | ((with_reducible refine at_bi ?_); refine w_rlen Try.elTx _ rfl rfl (v := v) rfl (hr.out.ext TxR.stays hXr) ?_)
    | ((with_reducible refine at_load ?_); (try refine w_yes _ _ _ rfl rfl rfl ?_); refine w_aload Try.stTx (.tmp 3) rfl rfl rfl f3 rfl ?_)
    | fail) <;> (try simp only [Act.put, List.setIfInBounds_toArray, List.set_cons_zero, List.set_cons_succ]))
  go_loopw [6, 7, 17] (fun u6 u7 i wr => ∃ (k : Nat) (X : List TxD) (dn : Bool), i = .int .i64 k ∧ u7 = .bool dn ∧ k ≤ l.length ∧ stA l t k = (X, dn) ∧ Mem.hasId (l.take k) t.id = false ∧ OwnT B wr u6 X ∧ Fs wr g3 [.int .i64 t.id, .int .i64 t.fee] ∧ B ≤ wr.heap.size ∧ Ext w wr) (fun _ _ i _ => l.length - (RowKit.intOf i).toNat)
  case atStart => exact ⟨0, [], false, rfl, rfl, Nat.zero_le _, by simp [stA], by simp [Mem.hasId], ho, f3, hBs, hXr⟩
  case round =>
    clear ho f3 hBs hXr
    obtain ⟨k, X, dn, rfl, rfl, hk, hst, hni, ho, f3, hBs, hXr⟩ := hrel
    have hXl := stA_len hst hk
    have hk16 : k ≤ 16 := by have := hfew.out; omega
    have hbigt := hide_ (show ((X.map TxD.row).length + ([t.row] : List (List Value)).length) * 16 ≤ 140737488355328 from by simp; omega)
    by_cases hge : l.length ≤ k
    · obtain rfl : k = l.length := by omega
      have t2 : decide (l.length < l.length) = false := by simp
      rw [List.take_length] at hni
      cases dn
      · obtain ⟨rfl, hpl⟩ := stA_end_f hst
        by_cases h16 : 16 ≤ X.length
        · have t3 : decide ((16 : Int) ≤ (X.length : Int)) = true := decide_eq_true (by omega)
          have ha := hide_ (hc2.out (.inr (by rw [hpl]; exact h16)))
          clear hge hk hst hni hXl hpl h16
          go_wp2_with ((first
            | ((with_reducible refine at_bi ?_); refine w_rlen Try.elTx _ rfl rfl (v := v) rfl (hr.out.ext TxR.stays hXr) ?_)
            | fail) <;> (try simp only [Act.put, List.setIfInBounds_toArray, List.set_cons_zero, List.set_cons_succ]))
          go_ret2
          exact Keep.intro ⟨v, by rw [ha.out]; rfl, by rw [ha.out]; exact hown.out.ext hXr, fun k hk => .inl hk, hXr⟩
        · have t3 : decide ((16 : Int) ≤ (X.length : Int)) = false := decide_eq_false (by omega)
          have ha := hide_ (hc3.out (by rw [hpl, hni]; simp; omega))
          have he := hide_ (show (Mem.insAt X (Mem.plc X t) t).take 16 = X ++ [t] from by
            rw [Mem.plc_full (by omega)]
            exact List.take_of_length_le (by simp; omega))
          have t4 : decide ((16 : Int) < (X.length : Int) + 1) = false := decide_eq_false (by omega)
          clear hge hk hst hni hXl hpl h16
          go_wp2_with ((first
            | ((with_reducible refine at_bi ?_); refine w_rlen Try.elTx _ rfl rfl (v := v) rfl (hr.out.ext TxR.stays hXr) ?_)
            | ((with_reducible refine at_bi ?_); refine w_rlen Try.elTx _ rfl rfl rfl ho.recs ?_)
            | ((with_reducible refine at_load ?_); (try refine w_yes _ _ _ rfl rfl rfl ?_); refine w_aload Try.stTx (.tmp 3) rfl rfl rfl f3 rfl ?_)
            | ((with_reducible refine at_lit ?_); refine w_nnew Try.elTxN [t.row] rfl rfl rfl (by simp [TxD.row]) rfl (by omega) ?_; intro vlt w6 B2 hB1 hB2 hx6 hn6; have hlt6 := hn6.slS; replace ho := ho.ext hx6; replace f3 := f3.ext hx6; (try replace f9 := f9.ext hx6); replace hBs := Nat.le_trans hBs hx6.size; replace hXr := hXr.trans hx6; clear hn6 hB1 hB2 hx6)
            | ((with_reducible refine at_bi ?_); refine w_napp Try.elTxN _ _ rfl rfl rfl rfl ho.own hlt6 (by simp) (by intro y hy; simp at hy; subst hy; exact t.one) hbigt.out ?_; intro vat w7 hm7 hn7; have hO2 := ho.app hBs htr.out hn7; replace f3 := f3.mod hm7 (fun e => by have h1 := ho.new _ e; have h2 := hgB.out; omega); (try replace f9 := f9.mod hm7 (fun e => n9.out _ e rfl)); replace hXr := hm7.after hXr (fun k hk => Nat.le_trans hwB.out (ho.new k hk)); replace hBs := Nat.le_trans hBs hm7.size; replace ho := hO2; clear hO2 hm7 hn7 hlt6)
            | fail) <;> (try simp only [Act.put, List.setIfInBounds_toArray, List.set_cons_zero, List.set_cons_succ]))
          go_ret2
          exact Keep.intro ⟨_, by rw [ha.out]; rfl, by rw [ha.out, he.out]; exact ho.mono (Nat.le_trans hlo'.out hwB.out), fun k hk => .inr (Nat.le_trans hwB.out (ho.new k hk)), hXr⟩
      · obtain ⟨hXe, hXl2, hpl⟩ := stA_end_t hst
        have ha := hide_ (hc3.out (by rw [hni]; simp; have := hfew.out; omega))
        rw [← hXe] at ha
        by_cases h16 : 16 < X.length
        · have t4 : decide ((16 : Int) < (X.length : Int)) = true := decide_eq_true (by omega)
          have h16' := hide_ (show 16 ≤ X.length from by omega)
          clear hge hk hst hni hXl hpl h16 hXe hXl2
          go_wp2_with ((first
            | ((with_reducible refine at_bi ?_); refine w_rlen Try.elTx _ rfl rfl rfl ho.recs ?_)
            | ((with_reducible refine at_cut ?_); refine w_oto _ _ 16 rfl rfl rfl rfl ho h16'.out (by omega) ?_; intro v16 o16 hb16)
            | fail) <;> (try simp only [Act.put, List.setIfInBounds_toArray, List.set_cons_zero, List.set_cons_succ]))
          go_ret2
          exact Keep.intro ⟨_, by rw [ha.out]; rfl, by rw [ha.out]; exact o16.mono (Nat.le_trans hlo'.out hwB.out), fun k hk => .inr (Nat.le_trans hwB.out (o16.new k hk)), hXr⟩
        · have t4 : decide ((16 : Int) < (X.length : Int)) = false := decide_eq_false (by omega)
          have he := hide_ (show X.take 16 = X from List.take_of_length_le (by omega))
          clear hge hk hst hni hXl hpl h16 hXe hXl2
          go_wp2_with ((first
            | ((with_reducible refine at_bi ?_); refine w_rlen Try.elTx _ rfl rfl rfl ho.recs ?_)
            | fail) <;> (try simp only [Act.put, List.setIfInBounds_toArray, List.set_cons_zero, List.set_cons_succ]))
          go_ret2
          exact Keep.intro ⟨_, by rw [ha.out]; rfl, by rw [ha.out, he.out]; exact ho.mono (Nat.le_trans hlo'.out hwB.out), fun k hk => .inr (Nat.le_trans hwB.out (ho.new k hk)), hXr⟩
    have hlt : k < l.length := by omega
    have t2 : decide (k < l.length) = true := by simpa using hlt
    obtain ⟨d, hd0⟩ : ∃ d, l[k]? = some d := ⟨_, List.getElem?_eq_getElem hlt⟩
    have hd := hide_ hd0
    have hdr := hide_ (hown.out.raw d (List.mem_of_getElem? hd0))
    have hlt' := hide_ hlt
    cases c : (d.id == t.id)
    rotate_left
    · have ha := hide_ (hc2.out (.inl (Mem.hasId_iff.2 ⟨d, List.mem_of_getElem? hd0, by simpa using c⟩)))
      clear hge hk hst hni hXl hlt hd0
      go_wp2_with ((first
        | ((with_reducible refine at_idx ?_); refine w_tidx Try.elTx _ _ k rfl rfl rfl rfl hr.out hXr hd.out ?_; intro pa hrow; replace hrow := hide_ hrow)
        | ((with_reducible refine at_load ?_); refine w_pload Try.stTx _ rfl rfl rfl hrow.out rfl ?_)
        | ((with_reducible refine at_alloc ?_); refine w_alloc Try.stTx rfl rfl ?_; intro g9 w2 hg9 hx2 f9; have n9 := hide_ (show ∀ k, u6.ownBlock = some k → ¬ k = g9 from fun k hk e => by have := ho.lt hk; omega))
        | ((with_reducible refine at_store ?_); refine w_astore Try.stTx _ _ (us := [.int .i64 d.id, .int .i64 d.fee]) rfl rfl rfl rfl rfl f9 rfl rfl (by intro u hu; simp at hu; rcases hu with rfl | rfl <;> rfl) ?_; intro w3 hm3 f8; replace hx2 := hm3.after hx2 (fun i hi => by subst hi; exact hg9); replace f9 := f8; replace f3 := f3.ext hx2; replace ho := ho.ext hx2; replace hBs := Nat.le_trans hBs hx2.size; replace hXr := hXr.trans hx2; clear hm3 f8 hx2 hg9)
        | ((with_reducible refine at_field ?_); (try refine w_yes _ _ _ rfl rfl rfl ?_); refine w_field Try.stTx _ _ _ rfl rfl rfl (by omega) ?_)
        | ((with_reducible refine at_load ?_); (try refine w_yes _ _ _ rfl rfl rfl ?_); refine w_fload (.tmp 21) rfl rfl rfl f9 rfl (agg_of (by kernel_rfl)) ?_)
        | ((with_reducible refine at_load ?_); (try refine w_yes _ _ _ rfl rfl rfl ?_); refine w_fload (.tmp 23) rfl rfl rfl f3 rfl (agg_of (by kernel_rfl)) ?_)
        | fail) <;> (try simp only [Act.put, List.setIfInBounds_toArray, List.set_cons_zero, List.set_cons_succ]))
      go_ret2
      exact Keep.intro ⟨v, by rw [ha.out]; rfl, by rw [ha.out]; exact hown.out.ext hXr, fun k hk => .inl hk, hXr⟩
    have hne : d.id ≠ t.id := by simpa using c
    have hni' := hide_ (noId_succ hni hd0 hne)
    cases dn
    · cases hls0 : TxD.less t d
      · have hls := hide_ hls0
        have hst' := hide_ (stA_f2 hst hd0 hne hls0)
        have hbigd := hide_ (show ((X.map TxD.row).length + ([d.row] : List (List Value)).length) * 16 ≤ 140737488355328 from by simp; omega)
        clear hge hk hst hni hXl hlt hd0 hls0 hne
        go_wp2_with ((first
          | ((try refine w_yes _ _ _ rfl rfl rfl ?_); go_at_call 20; refine (refLess_any t d _).mono ?_; rintro e w4 ⟨rfl, hx⟩; rw [hls.out]; replace f3 := f3.ext hx; replace f9 := f9.ext hx; replace ho := ho.ext hx; replace hBs := Nat.le_trans hBs hx.size; replace hXr := hXr.trans hx; clear hx)
          | ((with_reducible refine at_idx ?_); refine w_tidx Try.elTx _ _ k rfl rfl rfl rfl hr.out hXr hd.out ?_; intro pa hrow; replace hrow := hide_ hrow)
          | ((with_reducible refine at_load ?_); refine w_pload Try.stTx _ rfl rfl rfl hrow.out rfl ?_)
          | ((with_reducible refine at_alloc ?_); refine w_alloc Try.stTx rfl rfl ?_; intro g9 w2 hg9 hx2 f9; have n9 := hide_ (show ∀ k, u6.ownBlock = some k → ¬ k = g9 from fun k hk e => by have := ho.lt hk; omega))
          | ((with_reducible refine at_store ?_); refine w_astore Try.stTx _ _ (us := [.int .i64 d.id, .int .i64 d.fee]) rfl rfl rfl rfl rfl f9 rfl rfl (by intro u hu; simp at hu; rcases hu with rfl | rfl <;> rfl) ?_; intro w3 hm3 f8; replace hx2 := hm3.after hx2 (fun i hi => by subst hi; exact hg9); replace f9 := f8; replace f3 := f3.ext hx2; replace ho := ho.ext hx2; replace hBs := Nat.le_trans hBs hx2.size; replace hXr := hXr.trans hx2; clear hm3 f8 hx2 hg9)
          | ((with_reducible refine at_field ?_); (try refine w_yes _ _ _ rfl rfl rfl ?_); refine w_field Try.stTx _ _ _ rfl rfl rfl (by omega) ?_)
          | ((with_reducible refine at_load ?_); (try refine w_yes _ _ _ rfl rfl rfl ?_); refine w_aload Try.stTx (.tmp 9) rfl rfl rfl f9 rfl ?_)
          | ((with_reducible refine at_load ?_); (try refine w_yes _ _ _ rfl rfl rfl ?_); refine w_aload Try.stTx (.tmp 3) rfl rfl rfl f3 rfl ?_)
          | ((with_reducible refine at_load ?_); (try refine w_yes _ _ _ rfl rfl rfl ?_); refine w_fload (.tmp 21) rfl rfl rfl f9 rfl (agg_of (by kernel_rfl)) ?_)
          | ((with_reducible refine at_load ?_); (try refine w_yes _ _ _ rfl rfl rfl ?_); refine w_fload (.tmp 23) rfl rfl rfl f3 rfl (agg_of (by kernel_rfl)) ?_)
          | ((with_reducible refine at_lit ?_); refine w_nnew Try.elTxN [d.row] rfl rfl rfl (by simp [TxD.row]) rfl (by omega) ?_; intro vld w8 B3 hB1 hB2 hx6 hn6; have hld6 := hn6.slS; replace ho := ho.ext hx6; replace f3 := f3.ext hx6; replace hBs := Nat.le_trans hBs hx6.size; replace hXr := hXr.trans hx6; clear hn6 hB1 hB2 hx6 f9)
          | ((with_reducible refine at_bi ?_); refine w_napp Try.elTxN _ _ rfl rfl rfl rfl ho.own hld6 (by simp) (by intro y hy; simp at hy; subst hy; exact d.one) hbigd.out ?_; intro vad w9 hm7 hn7; have hO2 := ho.app hBs hdr.out hn7; replace f3 := f3.mod hm7 (fun e => by have h1 := ho.new _ e; have h2 := hgB.out; omega); replace hXr := hm7.after hXr (fun k hk => Nat.le_trans hwB.out (ho.new k hk)); replace hBs := Nat.le_trans hBs hm7.size; replace ho := hO2; clear hO2 hm7 hn7 hld6)
          | fail) <;> (try simp only [Act.put, List.setIfInBounds_toArray, List.set_cons_zero, List.set_cons_succ]))
        go_roundw
        case rel => exact ⟨k + 1, _, false, by go_num, rfl, hlt'.out, hst'.out, hni'.out, ho, f3, hBs, hXr⟩
        case measure => have := hlt'.out; simp [RowKit.intOf]; omega
      · have hls := hide_ hls0
        have hst' := hide_ (stA_f1 hst hd0 hne hls0)
        have hbigd := hide_ (show (((X ++ [t]).map TxD.row).length + ([d.row] : List (List Value)).length) * 16 ≤ 140737488355328 from by simp; omega)
        clear hge hk hst hni hXl hlt hd0 hls0 hne
        go_wp2_with ((first
          | ((try refine w_yes _ _ _ rfl rfl rfl ?_); go_at_call 20; refine (refLess_any t d _).mono ?_; rintro e w4 ⟨rfl, hx⟩; rw [hls.out]; replace f3 := f3.ext hx; replace f9 := f9.ext hx; replace ho := ho.ext hx; replace hBs := Nat.le_trans hBs hx.size; replace hXr := hXr.trans hx; clear hx)
          | ((with_reducible refine at_idx ?_); refine w_tidx Try.elTx _ _ k rfl rfl rfl rfl hr.out hXr hd.out ?_; intro pa hrow; replace hrow := hide_ hrow)
          | ((with_reducible refine at_load ?_); refine w_pload Try.stTx _ rfl rfl rfl hrow.out rfl ?_)
          | ((with_reducible refine at_alloc ?_); refine w_alloc Try.stTx rfl rfl ?_; intro g9 w2 hg9 hx2 f9; have n9 := hide_ (show ∀ k, u6.ownBlock = some k → ¬ k = g9 from fun k hk e => by have := ho.lt hk; omega))
          | ((with_reducible refine at_store ?_); refine w_astore Try.stTx _ _ (us := [.int .i64 d.id, .int .i64 d.fee]) rfl rfl rfl rfl rfl f9 rfl rfl (by intro u hu; simp at hu; rcases hu with rfl | rfl <;> rfl) ?_; intro w3 hm3 f8; replace hx2 := hm3.after hx2 (fun i hi => by subst hi; exact hg9); replace f9 := f8; replace f3 := f3.ext hx2; replace ho := ho.ext hx2; replace hBs := Nat.le_trans hBs hx2.size; replace hXr := hXr.trans hx2; clear hm3 f8 hx2 hg9)
          | ((with_reducible refine at_field ?_); (try refine w_yes _ _ _ rfl rfl rfl ?_); refine w_field Try.stTx _ _ _ rfl rfl rfl (by omega) ?_)
          | ((with_reducible refine at_load ?_); (try refine w_yes _ _ _ rfl rfl rfl ?_); refine w_aload Try.stTx (.tmp 9) rfl rfl rfl f9 rfl ?_)
          | ((with_reducible refine at_load ?_); (try refine w_yes _ _ _ rfl rfl rfl ?_); refine w_aload Try.stTx (.tmp 3) rfl rfl rfl f3 rfl ?_)
          | ((with_reducible refine at_load ?_); (try refine w_yes _ _ _ rfl rfl rfl ?_); refine w_fload (.tmp 21) rfl rfl rfl f9 rfl (agg_of (by kernel_rfl)) ?_)
          | ((with_reducible refine at_load ?_); (try refine w_yes _ _ _ rfl rfl rfl ?_); refine w_fload (.tmp 23) rfl rfl rfl f3 rfl (agg_of (by kernel_rfl)) ?_)
          | ((with_reducible refine at_lit ?_); refine w_nnew Try.elTxN [t.row] rfl rfl rfl (by simp [TxD.row]) rfl (by omega) ?_; intro vlt w6 B2 hB1 hB2 hx6 hn6; have hlt6 := hn6.slS; replace ho := ho.ext hx6; replace f3 := f3.ext hx6; (try replace f9 := f9.ext hx6); replace hBs := Nat.le_trans hBs hx6.size; replace hXr := hXr.trans hx6; clear hn6 hB1 hB2 hx6)
          | ((with_reducible refine at_bi ?_); refine w_napp Try.elTxN _ _ rfl rfl rfl rfl ho.own hlt6 (by simp) (by intro y hy; simp at hy; subst hy; exact t.one) hbigt.out ?_; intro vat w7 hm7 hn7; have hO2 := ho.app hBs htr.out hn7; replace f3 := f3.mod hm7 (fun e => by have h1 := ho.new _ e; have h2 := hgB.out; omega); (try replace f9 := f9.mod hm7 (fun e => n9.out _ e rfl)); replace hXr := hm7.after hXr (fun k hk => Nat.le_trans hwB.out (ho.new k hk)); replace hBs := Nat.le_trans hBs hm7.size; replace ho := hO2; clear hO2 hm7 hn7 hlt6)
          | ((with_reducible refine at_lit ?_); refine w_nnew Try.elTxN [d.row] rfl rfl rfl (by simp [TxD.row]) rfl (by omega) ?_; intro vld w8 B3 hB1 hB2 hx6 hn6; have hld6 := hn6.slS; replace ho := ho.ext hx6; replace f3 := f3.ext hx6; replace hBs := Nat.le_trans hBs hx6.size; replace hXr := hXr.trans hx6; clear hn6 hB1 hB2 hx6 f9)
          | ((with_reducible refine at_bi ?_); refine w_napp Try.elTxN _ _ rfl rfl rfl rfl ho.own hld6 (by simp) (by intro y hy; simp at hy; subst hy; exact d.one) hbigd.out ?_; intro vad w9 hm7 hn7; have hO2 := ho.app hBs hdr.out hn7; replace f3 := f3.mod hm7 (fun e => by have h1 := ho.new _ e; have h2 := hgB.out; omega); replace hXr := hm7.after hXr (fun k hk => Nat.le_trans hwB.out (ho.new k hk)); replace hBs := Nat.le_trans hBs hm7.size; replace ho := hO2; clear hO2 hm7 hn7 hld6)
          | fail) <;> (try simp only [Act.put, List.setIfInBounds_toArray, List.set_cons_zero, List.set_cons_succ]))
        go_roundw
        case rel => exact ⟨k + 1, _, true, by go_num, rfl, hlt'.out, hst'.out, hni'.out, ho, f3, hBs, hXr⟩
        case measure => have := hlt'.out; simp [RowKit.intOf]; omega
    · have hst' := hide_ (stA_t hst hd0)
      have hbigd := hide_ (show ((X.map TxD.row).length + ([d.row] : List (List Value)).length) * 16 ≤ 140737488355328 from by simp; omega)
      clear hge hk hst hni hXl hlt hd0 hne
      go_wp2_with ((first
        | ((with_reducible refine at_idx ?_); refine w_tidx Try.elTx _ _ k rfl rfl rfl rfl hr.out hXr hd.out ?_; intro pa hrow; replace hrow := hide_ hrow)
        | ((with_reducible refine at_load ?_); refine w_pload Try.stTx _ rfl rfl rfl hrow.out rfl ?_)
        | ((with_reducible refine at_alloc ?_); refine w_alloc Try.stTx rfl rfl ?_; intro g9 w2 hg9 hx2 f9; have n9 := hide_ (show ∀ k, u6.ownBlock = some k → ¬ k = g9 from fun k hk e => by have := ho.lt hk; omega))
        | ((with_reducible refine at_store ?_); refine w_astore Try.stTx _ _ (us := [.int .i64 d.id, .int .i64 d.fee]) rfl rfl rfl rfl rfl f9 rfl rfl (by intro u hu; simp at hu; rcases hu with rfl | rfl <;> rfl) ?_; intro w3 hm3 f8; replace hx2 := hm3.after hx2 (fun i hi => by subst hi; exact hg9); replace f9 := f8; replace f3 := f3.ext hx2; replace ho := ho.ext hx2; replace hBs := Nat.le_trans hBs hx2.size; replace hXr := hXr.trans hx2; clear hm3 f8 hx2 hg9)
        | ((with_reducible refine at_field ?_); (try refine w_yes _ _ _ rfl rfl rfl ?_); refine w_field Try.stTx _ _ _ rfl rfl rfl (by omega) ?_)
        | ((with_reducible refine at_load ?_); (try refine w_yes _ _ _ rfl rfl rfl ?_); refine w_aload Try.stTx (.tmp 9) rfl rfl rfl f9 rfl ?_)
        | ((with_reducible refine at_load ?_); (try refine w_yes _ _ _ rfl rfl rfl ?_); refine w_fload (.tmp 21) rfl rfl rfl f9 rfl (agg_of (by kernel_rfl)) ?_)
        | ((with_reducible refine at_load ?_); (try refine w_yes _ _ _ rfl rfl rfl ?_); refine w_fload (.tmp 23) rfl rfl rfl f3 rfl (agg_of (by kernel_rfl)) ?_)
        | ((with_reducible refine at_lit ?_); refine w_nnew Try.elTxN [d.row] rfl rfl rfl (by simp [TxD.row]) rfl (by omega) ?_; intro vld w8 B3 hB1 hB2 hx6 hn6; have hld6 := hn6.slS; replace ho := ho.ext hx6; replace f3 := f3.ext hx6; replace hBs := Nat.le_trans hBs hx6.size; replace hXr := hXr.trans hx6; clear hn6 hB1 hB2 hx6 f9)
        | ((with_reducible refine at_bi ?_); refine w_napp Try.elTxN _ _ rfl rfl rfl rfl ho.own hld6 (by simp) (by intro y hy; simp at hy; subst hy; exact d.one) hbigd.out ?_; intro vad w9 hm7 hn7; have hO2 := ho.app hBs hdr.out hn7; replace f3 := f3.mod hm7 (fun e => by have h1 := ho.new _ e; have h2 := hgB.out; omega); replace hXr := hm7.after hXr (fun k hk => Nat.le_trans hwB.out (ho.new k hk)); replace hBs := Nat.le_trans hBs hm7.size; replace ho := hO2; clear hO2 hm7 hn7 hld6)
        | fail) <;> (try simp only [Act.put, List.setIfInBounds_toArray, List.set_cons_zero, List.set_cons_succ]))
      go_roundw
      case rel => exact ⟨k + 1, _, true, by go_num, rfl, hlt'.out, hst'.out, hni'.out, ho, f3, hBs, hXr⟩
      case measure => have := hlt'.out; simp [RowKit.intOf]; omega
end Go.Proofs.Ytdacclcaopmalaa
