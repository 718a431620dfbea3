/- The contract of tx.readAll: so many transactions of bytes, with nothing behind them. -/
import Derived.Test.YtabbgnlabiakoaaTx3
import Derived.Test.YtabbgnlabiakoaaRegS
namespace Go.Proofs.Ytabbgnlabiakoaa
open Go.RowKit

/-! ### So many transactions, as plain mathematics -/
def TxD.row (d : TxD) : List Value := [.int .i64 d.id, .int .i64 d.fee]
theorem TxD.Right.raw {t : TxD} (h : t.Right) : t.Raw := by
  obtain ⟨h1, h2, h3, h4⟩ := h
  exact ⟨by omega, by omega⟩
def pairs : List Int → List TxD
  | i :: f :: r => ⟨i, f⟩ :: pairs r
  | _ => []
theorem pairs_txNums : ∀ l : List TxD, pairs (txNums l) = l
  | [] => rfl
  | t :: l => by rw [txNums_cons, pairs, pairs_txNums l]
theorem txNums_pairs : ∀ (m : Nat) (xs : List Int), xs.length = 2 * m → txNums (pairs xs) = xs ∧ (pairs xs).length = m
  | 0, [], _ => ⟨rfl, rfl⟩
  | 0, _ :: _, h => by simp at h
  | m + 1, [], h => by simp at h
  | m + 1, [x], h => by simp at h; omega
  | m + 1, i :: f :: r, h => by
    obtain ⟨h1, h2⟩ := txNums_pairs m r (by simp at h; omega)
    rw [pairs, txNums_cons, h1, List.length_cons, h2]
    exact ⟨rfl, rfl⟩
theorem pairs_get : ∀ (m : Nat) (xs : List Int) (k : Nat) (d : TxD), xs.length = 2 * m → (pairs xs)[k]? = some d → xs[2 * k]? = some d.id ∧ xs[2 * k + 1]? = some d.fee
  | 0, [], k, d, _, h => by simp [pairs] at h
  | 0, _ :: _, _, _, h, _ => by simp at h
  | m + 1, [], _, _, h, _ => by simp at h
  | m + 1, [x], _, _, h, _ => by simp at h; omega
  | m + 1, i :: f :: r, 0, d, h, hd => by
    simp only [pairs, List.getElem?_cons_zero, Option.some.injEq] at hd
    subst hd
    exact ⟨rfl, rfl⟩
  | m + 1, i :: f :: r, k + 1, d, h, hd => by
    rw [pairs, List.getElem?_cons_succ] at hd
    obtain ⟨h1, h2⟩ := pairs_get m r k d (by simp at h; omega) hd
    exact ⟨by rw [show 2 * (k + 1) = 2 * k + 1 + 1 from by omega]; simpa using h1, by rw [show 2 * (k + 1) + 1 = 2 * k + 1 + 1 + 1 from by omega]; simpa using h2⟩
/-- Just so many transactions of all of b. -/
def rdAll (m : Nat) (b : List Nat) : Option (List TxD) := match rns (2 * m) b with
  | some (xs, []) => if ∀ t ∈ pairs xs, t.Right then some (pairs xs) else none
  | _ => none
theorem rdAll_c1 {m : Nat} {b : List Nat} (h : rns (2 * m) b = none) : rdAll m b = none := by unfold rdAll; rw [h]
theorem rdAll_c2 {m : Nat} {b s : List Nat} {xs : List Int} (h : rns (2 * m) b = some (xs, s)) (hs : s ≠ []) : rdAll m b = none := by
  unfold rdAll; rw [h]
  cases s with
  | nil => exact absurd rfl hs
  | cons x s => rfl
theorem rdAll_c3 {m : Nat} {b : List Nat} {xs : List Int} {d : TxD} (h : rns (2 * m) b = some (xs, [])) (hd : d ∈ pairs xs) (hr : ¬ d.Right) : rdAll m b = none := by
  unfold rdAll; rw [h]; exact if_neg fun hn => hr (hn d hd)
theorem rdAll_c4 {m : Nat} {b : List Nat} {xs : List Int} (h : rns (2 * m) b = some (xs, [])) (hr : ∀ t ∈ pairs xs, t.Right) : rdAll m b = some (pairs xs) := by
  unfold rdAll; rw [h]; exact if_pos hr
theorem rdAll_some {m : Nat} {b : List Nat} (hb : ∀ x ∈ b, x < 256) {l : List TxD} (h : rdAll m b = some l) : l.length = m ∧ (∀ t ∈ l, t.Right) ∧ b = nuL (txNums l) := by
  unfold rdAll at h
  split at h
  · rename_i xs hr
    split at h
    · rename_i hc
      cases h
      obtain ⟨h1, h2, _⟩ := rns_was (2 * m) b xs [] hb hr
      obtain ⟨h3, h4⟩ := txNums_pairs m xs h2
      exact ⟨h4, hc, by rw [h3, h1, List.append_nil]⟩
    · cases h
  · cases h
theorem txNums_rdb {l : List TxD} (h : ∀ t ∈ l, t.Right) : Rdb (txNums l) := by
  intro x hx
  obtain ⟨y, hy, hxy⟩ := List.mem_flatten.1 hx
  obtain ⟨t, ht, rfl⟩ := List.mem_map.1 hy
  exact (h t ht).rdb x hxy
theorem rdAll_yes {l : List TxD} (h : ∀ t ∈ l, t.Right) : rdAll l.length (nuL (txNums l)) = some l := by
  have e := rns_yes (txNums_rdb h) []
  rw [List.append_nil, txNums_len] at e
  have := rdAll_c4 e (by rw [pairs_txNums]; exact h)
  rw [pairs_txNums] at this; exact this

/-! ### Owned slices of transactions -/
theorem Try.elTxN : ElN Try.prog 35 23 2 16 (.agg #[.int .i64 0, .int .i64 0]) := ElN.of Try.underlying35 (by kernel_rfl) rfl (by omega) (by omega)
/-- An owned slice of transactions, whose block is new since lo. -/
structure OwnT (lo : Nat) (w : World) (v : Value) (l : List TxD) : Prop where
  own : RowN (fun k => v.ownBlock = some k) w 23 2 v (l.map TxD.row)
  raw : ∀ t ∈ l, t.Raw
  new : ∀ k, v.ownBlock = some k → lo ≤ k
section
variable {lo lo' : Nat} {w w' : World} {v v' : Value} {l : List TxD}
theorem OwnT.ext (h : OwnT lo w v l) (he : Ext w w') : OwnT lo w' v l := ⟨h.own.ext he, h.raw, h.new⟩
theorem OwnT.mono (h : OwnT lo w v l) (hl : lo' ≤ lo) : OwnT lo' w v l := ⟨h.own, h.raw, fun k hk => Nat.le_trans hl (h.new k hk)⟩
theorem OwnT.mod {G : Nat → Prop} (h : OwnT lo w v l) (hm : Mod G w w') (hG : ∀ k, v.ownBlock = some k → ¬ G k) : OwnT lo w' v l := ⟨h.own.mod hm hG, h.raw, h.new⟩
theorem OwnT.lt (h : OwnT lo w v l) {k : Nat} (hk : v.ownBlock = some k) : k < w.heap.size := h.own.lt hk
theorem rows_recs {rows : List (List Value)} (h : rows = l.map TxD.row) (hr : ∀ t ∈ l, t.Raw) : ∀ (k : Nat) (row : List Value) (d : TxD), rows[k]? = some row → l[k]? = some d → TxR w row d := fun k row d hk hd => by
  subst h
  rw [List.getElem?_map, hd] at hk
  cases hk
  exact ⟨rfl, hr d (List.mem_of_getElem? hd)⟩
theorem OwnT.recs (h : OwnT lo w v l) : Recs 2 TxR w v l := h.own.recs (by simp) (rows_recs rfl h.raw)
theorem OwnT.nil (lo : Nat) (w : World) : OwnT lo w (.slice none 0 0) [] := ⟨RowN.nil _ _ _, fun _ h => by simp at h, fun _ hk => nomatch hk⟩
theorem OwnT.of {F : Nat → Prop} (h : RowN F w 23 2 v (l.map TxD.row)) (hr : ∀ t ∈ l, t.Raw) (hF : ∀ k, F k → lo ≤ k) : OwnT lo w v l := ⟨⟨h.own, h.each, fun _ h => h⟩, hr, fun k hk => hF k (h.inF k hk)⟩
theorem OwnT.app {d : TxD} (h : OwnT lo w v l) (hlo : lo ≤ w.heap.size) (hd : d.Raw) (hn : RowN (grow (fun k => v.ownBlock = some k) w w') w' 23 2 v' (l.map TxD.row ++ [d.row])) : OwnT lo w' v' (l ++ [d]) := by
  refine ⟨⟨?_, ?_, fun _ h => h⟩, fun t ht => ?_, fun k hk => ?_⟩
  · rw [List.map_append]; exact hn.own
  · rw [List.map_append]; exact hn.each
  · rcases List.mem_append.1 ht with ht | ht
    · exact h.raw t ht
    · rw [List.mem_singleton] at ht; subst ht; exact hd
  · rcases hn.inF k hk with h1 | h1
    · exact h.new k h1
    · omega
end

section
variable {w : World} {v : Value} {b s : List Nat} {xs : List Int} {m : Nat}
theorem rnO_of (hm : m ≤ 64) (b : List Nat) : rnO (m : Int) b = rns m b := by rw [rnO, if_neg (by omega)]; rfl
theorem RNums_yes (hm : m ≤ 64) (h : rns m b = some (xs, s)) (hb : ∀ x ∈ b, x < 256) (hl : b.length ≤ 140737488355328) (hv : Byt w v b) : Calls Try.prog 29 #[v, .int .i64 (m : Nat)] w fun e w' => ∃ v1 v2, e = .returned (.tuple #[v1, v2, .int .i64 0]) ∧ Ints w' v1 xs ∧ Byt w' v2 s ∧ Ext w w' := by
  refine (ReadNums_any v b m w hb hv hl).mono ?_
  rintro e w' ⟨v1, v2, rfl, h1, h2, h3⟩
  rw [rnO_of hm, h] at h1 h2 ⊢
  exact ⟨v1, v2, rfl, h1, h2, h3⟩
theorem RNums_no (hm : m ≤ 64) (h : rns m b = none) (hb : ∀ x ∈ b, x < 256) (hl : b.length ≤ 140737488355328) (hv : Byt w v b) : Calls Try.prog 29 #[v, .int .i64 (m : Nat)] w fun e w' => ∃ v1 v2, e = .returned (.tuple #[v1, v2, .int .i64 11]) ∧ Ext w w' := by
  refine (ReadNums_any v b m w hb hv hl).mono ?_
  rintro e w' ⟨v1, v2, rfl, h1, h2, h3⟩
  rw [rnO_of hm, h]
  exact ⟨v1, v2, rfl, h3⟩
theorem refRNums_yes (hm : m ≤ 64) (h : rns m b = some (xs, s)) (hb : ∀ x ∈ b, x < 256) (hl : b.length ≤ 140737488355328) (hv : Byt w v b) : Calls Try.prog 28 #[v, .int .i64 (m : Nat)] w fun e w' => ∃ v1 v2, e = .returned (.tuple #[v1, v2, .int .i64 0]) ∧ Ints w' v1 xs ∧ Byt w' v2 s ∧ Ext w w' := by
  refine (refReadNums_any v b m w hb hv hl).mono ?_
  rintro e w' ⟨v1, v2, rfl, h1, h2, h3⟩
  rw [rnO_of hm, h] at h1 h2 ⊢
  exact ⟨v1, v2, rfl, h1, h2, h3⟩
theorem refRNums_no (hm : m ≤ 64) (h : rns m b = none) (hb : ∀ x ∈ b, x < 256) (hl : b.length ≤ 140737488355328) (hv : Byt w v b) : Calls Try.prog 28 #[v, .int .i64 (m : Nat)] w fun e w' => ∃ v1 v2, e = .returned (.tuple #[v1, v2, .int .i64 11]) ∧ Ext w w' := by
  refine (refReadNums_any v b m w hb hv hl).mono ?_
  rintro e w' ⟨v1, v2, rfl, h1, h2, h3⟩
  rw [rnO_of hm, h]
  exact ⟨v1, v2, rfl, h3⟩
end

set_option maxRecDepth 100000 in
set_option maxHeartbeats 1600000 in
theorem readAll_any {w : World} {v : Value} {b : List Nat} (m : Nat) (hm : m ≤ 32) (hb : ∀ x ∈ b, x < 256) (hlen : b.length ≤ 140737488355328) (hv : Byt w v b) :
    Calls Try.prog 24 #[v, .int .i64 (m : Nat)] w fun e w' => ∃ v', e = .returned (.tuple #[v', .bool (rdAll m b).isSome]) ∧ Ext w w' ∧ OwnT w.heap.size w' v' ((rdAll m b).getD []) := by
  refine calls_keep ?_
  replace hlen := hide_ hlen
  have hm32 : 2 * m ≤ 64 := by omega
  have No : rdAll m b = none → Hid (∀ e w', e = .returned (.tuple #[.slice none 0 0, .bool false]) → Ext w w' → Keep (fun e w' => ∃ v', e = .returned (.tuple #[v', .bool (rdAll m b).isSome]) ∧ Ext w w' ∧ OwnT w.heap.size w' v' ((rdAll m b).getD [])) e w') := fun h => hide_ (fun e w' he hx => Keep.intro ⟨.slice none 0 0, by rw [he, h]; rfl, hx, by rw [h]; exact OwnT.nil _ _⟩)
  have c1 : IntKind.i64.wrap ((m : Int) * 2) = ((2 * m : Nat) : Int) := by rw [IntWalk.i64_in _ (by omega)]; omega
  cases hr : rns (2 * m) b with
  | none =>
    replace No := No (rdAll_c1 hr)
    replace hr := hide_ hr
    go_enter Try.func24, Try.ntmps24
    go_wp2_with (first
      | (go_at_call 29; refine (RNums_no hm32 hr.out hb hlen.out hv).mono ?_; rintro e w1 ⟨v1, v2, rfl, hx1⟩)
      | fail)
    go_ret2
    exact No.out _ _ rfl hx1
  | some p =>
    obtain ⟨xs, s⟩ := p
    by_cases hs : s = []
    rotate_left
    · have t1 : decide (0 < s.length) = true := by
        have : 0 < s.length := List.length_pos_iff.2 hs
        exact decide_eq_true this
      replace No := No (rdAll_c2 hr hs)
      replace hr := hide_ hr
      clear hs
      go_enter Try.func24, Try.ntmps24
      go_wp2_with ((first
        | (go_at_call 29; refine (RNums_yes hm32 hr.out hb hlen.out hv).mono ?_; rintro e w1 ⟨v1, v2, rfl, i1, b2, hx1⟩)
        | ((try refine w_yes _ _ _ rfl rfl rfl ?_); refine b_len _ rfl rfl (v := v2) rfl b2 ?_)
        | fail) <;> (try simp only [Act.put, List.setIfInBounds_toArray, List.set_cons_zero, List.set_cons_succ]))
      go_ret2
      exact No.out _ _ rfl hx1
    subst hs
    have t1 : decide (0 < ([] : List Nat).length) = false := rfl
    obtain ⟨_, hxl, hxi⟩ := rns_was (2 * m) b xs [] hb hr
    obtain ⟨_, hpl⟩ := txNums_pairs m xs hxl
    have hpg := hide_ (fun k d => pairs_get m xs k d hxl)
    have hxl' := hide_ hxl
    have hxi' := hide_ hxi
    have hr' := hide_ hr
    replace hr := hide_ hr
    clear hxl hxi
    go_enter Try.func24, Try.ntmps24
    go_wp2_with ((first
      | (go_at_call 29; refine (RNums_yes hm32 hr.out hb hlen.out hv).mono ?_; rintro e w1 ⟨v1, v2, rfl, i1, b2, hx1⟩)
      | ((try refine w_yes _ _ _ rfl rfl rfl ?_); refine b_len _ rfl rfl (v := v2) rfl b2 ?_)
      | fail) <;> (try simp only [Act.put, List.setIfInBounds_toArray, List.set_cons_zero, List.set_cons_succ]))
    go_loopw [9, 28] (fun vr i wr => ∃ k : Nat, i = .int .i64 k ∧ k ≤ m ∧ Hid (∀ t ∈ (pairs xs).take k, t.Right) ∧ OwnT w1.heap.size wr vr ((pairs xs).take k) ∧ Ext w1 wr) (fun _ i _ => m - (intOf i).toNat)
    case atStart => exact ⟨0, rfl, Nat.zero_le _, hide_ (by simp), OwnT.nil _ _, Ext.refl _⟩
    case round =>
      obtain ⟨k, rfl, hk, hall, hO, hX⟩ := hrel
      by_cases hge : m ≤ k
      · obtain rfl : k = m := by omega
        have t2 : decide (k < k) = false := by simp
        have he : (pairs xs).take k = pairs xs := List.take_of_length_le (by omega)
        rw [he] at hO hall
        have hfin := hide_ (rdAll_c4 hr'.out hall.out)
        clear he hge
        go_wp2
        go_ret2
        exact Keep.intro ⟨_, by rw [hfin.out]; rfl, hx1.trans hX, by rw [hfin.out]; exact hO.mono hx1.size⟩
      have hlt : k < m := by omega
      have t2 : decide (k < m) = true := by simpa using hlt
      obtain ⟨d, hd⟩ : ∃ d, (pairs xs)[k]? = some d := ⟨_, List.getElem?_eq_getElem (by omega)⟩
      have hdm : d ∈ pairs xs := List.mem_of_getElem? hd
      obtain ⟨hx0, hx1'⟩ := hpg.out k d hd
      have e0 := hide_ (show ∃ h : 2 * k < xs.length, xs[2 * k] = d.id from List.getElem?_eq_some_iff.1 hx0)
      have e1 := hide_ (show ∃ h : 2 * k + 1 < xs.length, xs[2 * k + 1] = d.fee from List.getElem?_eq_some_iff.1 hx1')
      have hdraw := hide_ (show d.Raw from by
        have h0 := hxi'.out d.id (List.mem_of_getElem? hx0)
        have h1 := hxi'.out d.fee (List.mem_of_getElem? hx1')
        exact ⟨by omega, by omega⟩)
      have htk : (pairs xs).take (k + 1) = (pairs xs).take k ++ [d] := by rw [List.take_add_one, hd]; rfl
      have hbig := hide_ (show (((pairs xs).take k |>.map TxD.row).length + [d.row].length) * 16 ≤ 140737488355328 from by simp; omega)
      have j0 := (i1.ext hX)
      clear hx0 hx1' hge
      by_cases hdr : d.Right
      · have hdec := hide_ (decide_eq_true hdr)
        have hall2 := hide_ (show ∀ t ∈ (pairs xs).take (k + 1), t.Right from fun t ht => by
          rw [htk] at ht
          rcases List.mem_append.1 ht with ht | ht
          · exact hall.out t ht
          · rw [List.mem_singleton] at ht; subst ht; exact hdr)
        have htk' := hide_ htk
        clear htk hall hdr hdm
        go_wp2
        refine wp_region_phx (by kernel_rfl) ?_; intro wd hxd; have j1 := j0.ext hxd; replace hO := hO.ext hxd; replace hX := hX.trans hxd
        refine Ph.gate 0 13 (by kernel_rfl) ?_
        refine LinL.step (s := (.val (v1))) [(6, none)] rfl (by kernel_rfl) (op_out 6 (v1) rfl (.inl rfl) rfl) ?_
        refine LinL.step (s := (.val (.int .i64 (k : Nat)))) [(10, none)] rfl (by kernel_rfl) (op_out 10 (.int .i64 (k : Nat)) rfl (.inl rfl) rfl) ?_
        refine LinL.step (s := (.val (.int .i64 ((2 * k : Nat) : Int)))) [(32, some 0)] rfl (by kernel_rfl) (op_runs rfl fun σ w' hx hg => ⟨_, runs_mul (ρ := σ.eval) (w := w') (.tmp 32) (.const (.int .i64 2)) (((2 * k : Nat) : Int)) (by omega) (by omega) rfl hg.1 rfl, rfl⟩) ?_
        refine LinL.step (s := (Sp.ptr (.int .i64 (d.id)))) [(31, some 2), (33, some 0)] rfl (by kernel_rfl) (op_runs rfl fun σ w' hx hg => rptri (ρ := σ.eval) (w := w') (.tmp 31) (.tmp 33) rfl hg.1 (j1.ext hx) ((2 * k)) hg.2.1 e0.out.choose e0.out.choose_spec) ?_
        refine LinL.step (s := (.val (.int .i64 (d.id : Int)))) [(34, some 0)] rfl (by kernel_rfl) (op_runs rfl fun σ w' hx hg => ⟨_, runs_load (ρ := σ.eval) (w := w') (.tmp 34) rfl Try.underlying3 rfl hg.1, rfl⟩) ?_
        refine LinL.step (s := (.val (v1))) [(6, none)] rfl (by kernel_rfl) (op_out 6 (v1) rfl (.inl rfl) rfl) ?_
        refine LinL.step (s := (.val (.int .i64 (k : Nat)))) [(10, none)] rfl (by kernel_rfl) (op_out 10 (.int .i64 (k : Nat)) rfl (.inl rfl) rfl) ?_
        refine LinL.step (s := (.val (.int .i64 ((2 * k : Nat) : Int)))) [(37, some 0)] rfl (by kernel_rfl) (op_runs rfl fun σ w' hx hg => ⟨_, runs_mul (ρ := σ.eval) (w := w') (.tmp 37) (.const (.int .i64 2)) (((2 * k : Nat) : Int)) (by omega) (by omega) rfl hg.1 rfl, rfl⟩) ?_
        refine LinL.step (s := (.val (.int .i64 ((2 * k + 1 : Nat) : Int)))) [(38, some 0)] rfl (by kernel_rfl) (op_runs rfl fun σ w' hx hg => ⟨_, runs_add (ρ := σ.eval) (w := w') (.tmp 38) (.const (.int .i64 1)) (((2 * k + 1 : Nat) : Int)) (by omega) (by omega) rfl hg.1 rfl, rfl⟩) ?_
        refine LinL.step (s := (Sp.ptr (.int .i64 (d.fee)))) [(36, some 3), (39, some 0)] rfl (by kernel_rfl) (op_runs rfl fun σ w' hx hg => rptri (ρ := σ.eval) (w := w') (.tmp 36) (.tmp 39) rfl hg.1 (j1.ext hx) ((2 * k + 1)) hg.2.1 e1.out.choose e1.out.choose_spec) ?_
        refine LinL.step (s := (.val (.int .i64 (d.fee : Int)))) [(40, some 0)] rfl (by kernel_rfl) (op_runs rfl fun σ w' hx hg => ⟨_, runs_load (ρ := σ.eval) (w := w') (.tmp 40) rfl Try.underlying3 rfl hg.1, rfl⟩) ?_
        refine LinL.step (s := (.val (.agg #[.int .i64 d.id, .int .i64 d.fee]))) [(35, some 6), (41, some 0)] rfl (by kernel_rfl) (op_runs rfl fun σ w' hx hg => ⟨_, runs_sbuild (ρ := σ.eval) (w := w') Try.stTx [.int .i64 d.id, .int .i64 d.fee] (ps := #[(0, .tmp 35), (1, .tmp 41)]) rfl (by have h35 : σ.tmps.getD 35 undef = .int .i64 (d.id : Int) := hg.1; have h41 : σ.tmps.getD 41 undef = .int .i64 (d.fee : Int) := hg.2.1; simp only [List.map_cons, List.map_nil, Act.eval, h35, h41, List.foldl_cons, List.foldl_nil, List.set_cons_zero, List.set_cons_succ]) (by have h35 : σ.tmps.getD 35 undef = .int .i64 (d.id : Int) := hg.1; have h41 : σ.tmps.getD 41 undef = .int .i64 (d.fee : Int) := hg.2.1; intro p hp; simp at hp; rcases hp with rfl | rfl; exact ⟨by decide, by show (σ.tmps.getD 35 undef).cells = #[σ.tmps.getD 35 undef]; rw [h35]; exact rfl⟩; exact ⟨by decide, by show (σ.tmps.getD 41 undef).cells = #[σ.tmps.getD 41 undef]; rw [h41]; exact rfl⟩), rfl⟩) ?_
        refine LinL.step (s := (Sp.fs wd.heap.size [.int .i64 0, .int .i64 0])) [] rfl (by kernel_rfl) (op_alloc Try.stTx (Nat.le_refl _) rfl rfl) ?_
        intro wN hxN
        simp only [Fin', Sp.ptr, Sp.fs, List.reverse_cons, List.reverse_nil, List.nil_append, List.cons_append, List.drop_zero, List.take_succ_cons, List.take_zero]
        intro q34 hq34 q40 hq40 q11 hq11
        simp only [Act.put, List.setIfInBounds_toArray, List.set_cons_zero, List.set_cons_succ]
        obtain ⟨g11, rfl, hg11, f11⟩ := hq11
        refine wpOp_of_list rfl ?_
        refine w_astore Try.stTx (us := [.int .i64 d.id, .int .i64 d.fee]) _ _ rfl rfl rfl rfl rfl f11 rfl rfl d.one ?_; intro w4 hm4 f4; replace f11 := f4; clear f4
        have hx4 : Ext wd w4 := hm4.after hxN (fun j e => e ▸ hg11)
        replace hO := hO.ext hx4; replace hX := hX.trans hx4
        show Ph Try.prog _ _ 14 _ _
        refine Ph.rest 14 0 (by kernel_rfl) ?_
        intro wN2 hxN2
        simp only [Fin', List.reverse_nil, List.drop_zero, List.drop_succ_cons, List.take_zero]
        replace f11 := f11.ext hxN2; replace hX := hX.trans hxN2; replace hO := hO.ext hxN2
        clear hxN2 hm4 hx4 hg11 hxN j1 j0 hq34 hq40
        go_wp2_with ((first
          | (refine w_aload Try.stTx _ rfl rfl rfl f11 rfl ?_)
          | (go_at_call 14; refine (Right_any d _).mono ?_; rintro e w5 ⟨rfl, hx5⟩; rw [hdec.out]; replace f11 := f11.ext hx5; replace hX := hX.trans hx5; replace hO := hO.ext hx5; clear hx5)
          | (refine w_nnew Try.elTxN [d.row] rfl rfl rfl (by simp [TxD.row]) rfl (by omega) ?_; intro vl w6 B hB1 hB2 hx6 hn6; have hl6 := hn6.slS; replace hX := hX.trans hx6; replace hO := hO.ext hx6; clear f11 hn6 hB1 hB2 hx6)
          | (refine w_napp Try.elTxN _ _ rfl rfl rfl rfl hO.own hl6 (by simp) (by intro y hy; simp at hy; subst hy; exact d.one) hbig.out ?_; intro v9 w7 hm7 hn7; have hO2 := hO.app hX.size hdraw.out hn7; replace hX := hm7.after hX hO.new; replace hO := hO2; clear hO2 hm7 hn7 hl6)
          | fail) <;> (try simp only [Act.put, List.setIfInBounds_toArray, List.set_cons_zero, List.set_cons_succ]))
        go_roundw
        case rel => exact ⟨k + 1, by go_num, by omega, hall2, by rw [htk'.out]; exact hO, hX⟩
        case measure => simp [intOf]; omega
      · have hdec := hide_ (decide_eq_false hdr)
        replace No := No (rdAll_c3 hr'.out hdm hdr)
        clear htk hall hdr hdm
        go_wp2
        refine wp_region_phx (by kernel_rfl) ?_; intro wd hxd; have j1 := j0.ext hxd; replace hO := hO.ext hxd; replace hX := hX.trans hxd
        refine Ph.gate 0 13 (by kernel_rfl) ?_
        refine LinL.step (s := (.val (v1))) [(6, none)] rfl (by kernel_rfl) (op_out 6 (v1) rfl (.inl rfl) rfl) ?_
        refine LinL.step (s := (.val (.int .i64 (k : Nat)))) [(10, none)] rfl (by kernel_rfl) (op_out 10 (.int .i64 (k : Nat)) rfl (.inl rfl) rfl) ?_
        refine LinL.step (s := (.val (.int .i64 ((2 * k : Nat) : Int)))) [(32, some 0)] rfl (by kernel_rfl) (op_runs rfl fun σ w' hx hg => ⟨_, runs_mul (ρ := σ.eval) (w := w') (.tmp 32) (.const (.int .i64 2)) (((2 * k : Nat) : Int)) (by omega) (by omega) rfl hg.1 rfl, rfl⟩) ?_
        refine LinL.step (s := (Sp.ptr (.int .i64 (d.id)))) [(31, some 2), (33, some 0)] rfl (by kernel_rfl) (op_runs rfl fun σ w' hx hg => rptri (ρ := σ.eval) (w := w') (.tmp 31) (.tmp 33) rfl hg.1 (j1.ext hx) ((2 * k)) hg.2.1 e0.out.choose e0.out.choose_spec) ?_
        refine LinL.step (s := (.val (.int .i64 (d.id : Int)))) [(34, some 0)] rfl (by kernel_rfl) (op_runs rfl fun σ w' hx hg => ⟨_, runs_load (ρ := σ.eval) (w := w') (.tmp 34) rfl Try.underlying3 rfl hg.1, rfl⟩) ?_
        refine LinL.step (s := (.val (v1))) [(6, none)] rfl (by kernel_rfl) (op_out 6 (v1) rfl (.inl rfl) rfl) ?_
        refine LinL.step (s := (.val (.int .i64 (k : Nat)))) [(10, none)] rfl (by kernel_rfl) (op_out 10 (.int .i64 (k : Nat)) rfl (.inl rfl) rfl) ?_
        refine LinL.step (s := (.val (.int .i64 ((2 * k : Nat) : Int)))) [(37, some 0)] rfl (by kernel_rfl) (op_runs rfl fun σ w' hx hg => ⟨_, runs_mul (ρ := σ.eval) (w := w') (.tmp 37) (.const (.int .i64 2)) (((2 * k : Nat) : Int)) (by omega) (by omega) rfl hg.1 rfl, rfl⟩) ?_
        refine LinL.step (s := (.val (.int .i64 ((2 * k + 1 : Nat) : Int)))) [(38, some 0)] rfl (by kernel_rfl) (op_runs rfl fun σ w' hx hg => ⟨_, runs_add (ρ := σ.eval) (w := w') (.tmp 38) (.const (.int .i64 1)) (((2 * k + 1 : Nat) : Int)) (by omega) (by omega) rfl hg.1 rfl, rfl⟩) ?_
        refine LinL.step (s := (Sp.ptr (.int .i64 (d.fee)))) [(36, some 3), (39, some 0)] rfl (by kernel_rfl) (op_runs rfl fun σ w' hx hg => rptri (ρ := σ.eval) (w := w') (.tmp 36) (.tmp 39) rfl hg.1 (j1.ext hx) ((2 * k + 1)) hg.2.1 e1.out.choose e1.out.choose_spec) ?_
        refine LinL.step (s := (.val (.int .i64 (d.fee : Int)))) [(40, some 0)] rfl (by kernel_rfl) (op_runs rfl fun σ w' hx hg => ⟨_, runs_load (ρ := σ.eval) (w := w') (.tmp 40) rfl Try.underlying3 rfl hg.1, rfl⟩) ?_
        refine LinL.step (s := (.val (.agg #[.int .i64 d.id, .int .i64 d.fee]))) [(35, some 6), (41, some 0)] rfl (by kernel_rfl) (op_runs rfl fun σ w' hx hg => ⟨_, runs_sbuild (ρ := σ.eval) (w := w') Try.stTx [.int .i64 d.id, .int .i64 d.fee] (ps := #[(0, .tmp 35), (1, .tmp 41)]) rfl (by have h35 : σ.tmps.getD 35 undef = .int .i64 (d.id : Int) := hg.1; have h41 : σ.tmps.getD 41 undef = .int .i64 (d.fee : Int) := hg.2.1; simp only [List.map_cons, List.map_nil, Act.eval, h35, h41, List.foldl_cons, List.foldl_nil, List.set_cons_zero, List.set_cons_succ]) (by have h35 : σ.tmps.getD 35 undef = .int .i64 (d.id : Int) := hg.1; have h41 : σ.tmps.getD 41 undef = .int .i64 (d.fee : Int) := hg.2.1; intro p hp; simp at hp; rcases hp with rfl | rfl; exact ⟨by decide, by show (σ.tmps.getD 35 undef).cells = #[σ.tmps.getD 35 undef]; rw [h35]; exact rfl⟩; exact ⟨by decide, by show (σ.tmps.getD 41 undef).cells = #[σ.tmps.getD 41 undef]; rw [h41]; exact rfl⟩), rfl⟩) ?_
        refine LinL.step (s := (Sp.fs wd.heap.size [.int .i64 0, .int .i64 0])) [] rfl (by kernel_rfl) (op_alloc Try.stTx (Nat.le_refl _) rfl rfl) ?_
        intro wN hxN
        simp only [Fin', Sp.ptr, Sp.fs, List.reverse_cons, List.reverse_nil, List.nil_append, List.cons_append, List.drop_zero, List.take_succ_cons, List.take_zero]
        intro q34 hq34 q40 hq40 q11 hq11
        simp only [Act.put, List.setIfInBounds_toArray, List.set_cons_zero, List.set_cons_succ]
        obtain ⟨g11, rfl, hg11, f11⟩ := hq11
        refine wpOp_of_list rfl ?_
        refine w_astore Try.stTx (us := [.int .i64 d.id, .int .i64 d.fee]) _ _ rfl rfl rfl rfl rfl f11 rfl rfl d.one ?_; intro w4 hm4 f4; replace f11 := f4; clear f4
        have hx4 : Ext wd w4 := hm4.after hxN (fun j e => e ▸ hg11)
        replace hO := hO.ext hx4; replace hX := hX.trans hx4
        show Ph Try.prog _ _ 14 _ _
        refine Ph.rest 14 0 (by kernel_rfl) ?_
        intro wN2 hxN2
        simp only [Fin', List.reverse_nil, List.drop_zero, List.drop_succ_cons, List.take_zero]
        replace f11 := f11.ext hxN2; replace hX := hX.trans hxN2; replace hO := hO.ext hxN2
        clear hxN2 hm4 hx4 hg11 hxN j1 j0 hq34 hq40
        go_wp2_with ((first
          | (refine w_aload Try.stTx _ rfl rfl rfl f11 rfl ?_)
          | (go_at_call 14; refine (Right_any d _).mono ?_; rintro e w5 ⟨rfl, hx5⟩; rw [hdec.out]; replace f11 := f11.ext hx5; replace hX := hX.trans hx5; replace hO := hO.ext hx5; clear hx5)
          | fail) <;> (try simp only [Act.put, List.setIfInBounds_toArray, List.set_cons_zero, List.set_cons_succ]))
        go_ret2
        exact No.out _ _ rfl (hx1.trans hX)
end Go.Proofs.Ytabbgnlabiakoaa
