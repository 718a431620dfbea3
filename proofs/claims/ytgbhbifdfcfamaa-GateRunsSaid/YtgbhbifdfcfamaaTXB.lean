/- The contract of tx.readAll: so many transactions of bytes, with nothing behind them. · The contracts of tx.Read, tx.List and tx.ReadList. · The contracts of the document's List and Same (transactions). · The contracts of the document's Read and ReadList (transactions). -/
import Derived.Test.YtgbhbifdfcfamaaTXA
import Derived.Test.YtgbhbifdfcfamaaFC
namespace Go.Proofs.Ytgbhbifdfcfamaa
set_option maxRecDepth 100000
open Go.RowKit

/-! ### So many transactions, as plain mathematics -/
def TxD.row (d : TxD) : List Value := [.int .i64 d.id, .int .i64 d.fee]
theorem TxD.Right.raw {t : TxD} (h : t.Right) : t.Raw := by
  obtain ⟨h1, h2, h3, h4⟩ := h
  exact ⟨by omega, by omega⟩
def pairs : List Int → List TxD
  | i :: f :: r => ⟨i, f⟩ :: pairs r
  | _ => []
theorem pairs_txNums : ∀ l : List TxD, pairs (txNums l) = l
  | [] => rfl
  | t :: l => by rw [txNums_cons, pairs, pairs_txNums l]
theorem txNums_pairs : ∀ (m : Nat) (xs : List Int), xs.length = 2 * m → txNums (pairs xs) = xs ∧ (pairs xs).length = m
  | 0, [], _ => ⟨rfl, rfl⟩
  | 0, _ :: _, h => by simp at h
  | m + 1, [], h => by simp at h
  | m + 1, [x], h => by simp at h; omega
  | m + 1, i :: f :: r, h => by
    obtain ⟨h1, h2⟩ := txNums_pairs m r (by simp at h; omega)
    rw [pairs, txNums_cons, h1, List.length_cons, h2]
    exact ⟨rfl, rfl⟩
theorem pairs_get : ∀ (m : Nat) (xs : List Int) (k : Nat) (d : TxD), xs.length = 2 * m → (pairs xs)[k]? = some d → xs[2 * k]? = some d.id ∧ xs[2 * k + 1]? = some d.fee
  | 0, [], k, d, _, h => by simp [pairs] at h
  | 0, _ :: _, _, _, h, _ => by simp at h
  | m + 1, [], _, _, h, _ => by simp at h
  | m + 1, [x], _, _, h, _ => by simp at h; omega
  | m + 1, i :: f :: r, 0, d, h, hd => by
    simp only [pairs, List.getElem?_cons_zero, Option.some.injEq] at hd
    subst hd
    exact ⟨rfl, rfl⟩
  | m + 1, i :: f :: r, k + 1, d, h, hd => by
    rw [pairs, List.getElem?_cons_succ] at hd
    obtain ⟨h1, h2⟩ := pairs_get m r k d (by simp at h; omega) hd
    exact ⟨by rw [show 2 * (k + 1) = 2 * k + 1 + 1 from by omega]; simpa using h1, by rw [show 2 * (k + 1) + 1 = 2 * k + 1 + 1 + 1 from by omega]; simpa using h2⟩
/-- Just so many transactions of all of b. -/
def rdAll (m : Nat) (b : List Nat) : Option (List TxD) := match rns (2 * m) b with
  | some (xs, []) => if ∀ t ∈ pairs xs, t.Right then some (pairs xs) else none
  | _ => none
theorem rdAll_c1 {m : Nat} {b : List Nat} (h : rns (2 * m) b = none) : rdAll m b = none := by unfold rdAll; rw [h]
theorem rdAll_c2 {m : Nat} {b s : List Nat} {xs : List Int} (h : rns (2 * m) b = some (xs, s)) (hs : s ≠ []) : rdAll m b = none := by
  unfold rdAll; rw [h]
  cases s with
  | nil => exact absurd rfl hs
  | cons x s => rfl
theorem rdAll_c3 {m : Nat} {b : List Nat} {xs : List Int} {d : TxD} (h : rns (2 * m) b = some (xs, [])) (hd : d ∈ pairs xs) (hr : ¬ d.Right) : rdAll m b = none := by
  unfold rdAll; rw [h]; exact if_neg fun hn => hr (hn d hd)
theorem rdAll_c4 {m : Nat} {b : List Nat} {xs : List Int} (h : rns (2 * m) b = some (xs, [])) (hr : ∀ t ∈ pairs xs, t.Right) : rdAll m b = some (pairs xs) := by
  unfold rdAll; rw [h]; exact if_pos hr
theorem rdAll_some {m : Nat} {b : List Nat} (hb : ∀ x ∈ b, x < 256) {l : List TxD} (h : rdAll m b = some l) : l.length = m ∧ (∀ t ∈ l, t.Right) ∧ b = nuL (txNums l) := by
  unfold rdAll at h
  split at h
  · rename_i xs hr
    split at h
    · rename_i hc
      cases h
      obtain ⟨h1, h2, _⟩ := rns_was (2 * m) b xs [] hb hr
      obtain ⟨h3, h4⟩ := txNums_pairs m xs h2
      exact ⟨h4, hc, by rw [h3, h1, List.append_nil]⟩
    · cases h
  · cases h
theorem txNums_rdb {l : List TxD} (h : ∀ t ∈ l, t.Right) : Rdb (txNums l) := by
  intro x hx
  obtain ⟨y, hy, hxy⟩ := List.mem_flatten.1 hx
  obtain ⟨t, ht, rfl⟩ := List.mem_map.1 hy
  exact (h t ht).rdb x hxy
theorem rdAll_yes {l : List TxD} (h : ∀ t ∈ l, t.Right) : rdAll l.length (nuL (txNums l)) = some l := by
  have e := rns_yes (txNums_rdb h) []
  rw [List.append_nil, txNums_len] at e
  have := rdAll_c4 e (by rw [pairs_txNums]; exact h)
  rw [pairs_txNums] at this; exact this

/-! ### Owned slices of transactions -/
theorem Try.elTxN : ElN Try.prog 44 43 2 16 (.agg #[.int .i64 0, .int .i64 0]) := ElN.of Try.underlying44 (by kernel_rfl) rfl (by omega) (by omega)
/-- An owned slice of transactions, whose block is new since lo. -/
structure OwnT (lo : Nat) (w : World) (v : Value) (l : List TxD) : Prop where
  own : RowN (fun k => v.ownBlock = some k) w 43 2 v (l.map TxD.row)
  raw : ∀ t ∈ l, t.Raw
  new : ∀ k, v.ownBlock = some k → lo ≤ k
section
variable {lo lo' : Nat} {w w' : World} {v v' : Value} {l : List TxD}
theorem OwnT.ext (h : OwnT lo w v l) (he : Ext w w') : OwnT lo w' v l := ⟨h.own.ext he, h.raw, h.new⟩
theorem OwnT.mono (h : OwnT lo w v l) (hl : lo' ≤ lo) : OwnT lo' w v l := ⟨h.own, h.raw, fun k hk => Nat.le_trans hl (h.new k hk)⟩
theorem OwnT.mod {G : Nat → Prop} (h : OwnT lo w v l) (hm : Mod G w w') (hG : ∀ k, v.ownBlock = some k → ¬ G k) : OwnT lo w' v l := ⟨h.own.mod hm hG, h.raw, h.new⟩
theorem OwnT.lt (h : OwnT lo w v l) {k : Nat} (hk : v.ownBlock = some k) : k < w.heap.size := h.own.lt hk
theorem rows_recs {rows : List (List Value)} (h : rows = l.map TxD.row) (hr : ∀ t ∈ l, t.Raw) : ∀ (k : Nat) (row : List Value) (d : TxD), rows[k]? = some row → l[k]? = some d → TxR w row d := fun k row d hk hd => by
  subst h
  rw [List.getElem?_map, hd] at hk
  cases hk
  exact ⟨rfl, hr d (List.mem_of_getElem? hd)⟩
theorem OwnT.recs (h : OwnT lo w v l) : Recs 2 TxR w v l := h.own.recs (by simp) (rows_recs rfl h.raw)
theorem OwnT.nil (lo : Nat) (w : World) : OwnT lo w (.slice none 0 0) [] := ⟨RowN.nil _ _ _, fun _ h => by simp at h, fun _ hk => nomatch hk⟩
theorem OwnT.of {F : Nat → Prop} (h : RowN F w 43 2 v (l.map TxD.row)) (hr : ∀ t ∈ l, t.Raw) (hF : ∀ k, F k → lo ≤ k) : OwnT lo w v l := ⟨⟨h.own, h.each, fun _ h => h⟩, hr, fun k hk => hF k (h.inF k hk)⟩
theorem OwnT.app {d : TxD} (h : OwnT lo w v l) (hlo : lo ≤ w.heap.size) (hd : d.Raw) (hn : RowN (grow (fun k => v.ownBlock = some k) w w') w' 43 2 v' (l.map TxD.row ++ [d.row])) : OwnT lo w' v' (l ++ [d]) := by
  refine ⟨⟨?_, ?_, fun _ h => h⟩, fun t ht => ?_, fun k hk => ?_⟩
  · rw [List.map_append]; exact hn.own
  · rw [List.map_append]; exact hn.each
  · rcases List.mem_append.1 ht with ht | ht
    · exact h.raw t ht
    · rw [List.mem_singleton] at ht; subst ht; exact hd
  · rcases hn.inF k hk with h1 | h1
    · exact h.new k h1
    · omega
end

section
variable {w : World} {v : Value} {b s : List Nat} {xs : List Int} {m : Nat}
theorem rnO_of (hm : m ≤ 64) (b : List Nat) : rnO (m : Int) b = rns m b := by rw [rnO, if_neg (by omega)]; rfl
theorem RNums_yes (hm : m ≤ 64) (h : rns m b = some (xs, s)) (hb : ∀ x ∈ b, x < 256) (hl : b.length ≤ 140737488355328) (hv : Byt w v b) : Calls Try.prog 59 #[v, .int .i64 (m : Nat)] w fun e w' => ∃ v1 v2, e = .returned (.tuple #[v1, v2, .int .i64 0]) ∧ Ints w' v1 xs ∧ Byt w' v2 s ∧ Ext w w' := by
  refine (ReadNums_any v b m w hb hv hl).mono ?_
  rintro e w' ⟨v1, v2, rfl, h1, h2, h3⟩
  rw [rnO_of hm, h] at h1 h2 ⊢
  exact ⟨v1, v2, rfl, h1, h2, h3⟩
theorem RNums_no (hm : m ≤ 64) (h : rns m b = none) (hb : ∀ x ∈ b, x < 256) (hl : b.length ≤ 140737488355328) (hv : Byt w v b) : Calls Try.prog 59 #[v, .int .i64 (m : Nat)] w fun e w' => ∃ v1 v2, e = .returned (.tuple #[v1, v2, .int .i64 11]) ∧ Ext w w' := by
  refine (ReadNums_any v b m w hb hv hl).mono ?_
  rintro e w' ⟨v1, v2, rfl, h1, h2, h3⟩
  rw [rnO_of hm, h]
  exact ⟨v1, v2, rfl, h3⟩
theorem refRNums_yes (hm : m ≤ 64) (h : rns m b = some (xs, s)) (hb : ∀ x ∈ b, x < 256) (hl : b.length ≤ 140737488355328) (hv : Byt w v b) : Calls Try.prog 30 #[v, .int .i64 (m : Nat)] w fun e w' => ∃ v1 v2, e = .returned (.tuple #[v1, v2, .int .i64 0]) ∧ Ints w' v1 xs ∧ Byt w' v2 s ∧ Ext w w' := by
  refine (refReadNums_any v b m w hb hv hl).mono ?_
  rintro e w' ⟨v1, v2, rfl, h1, h2, h3⟩
  rw [rnO_of hm, h] at h1 h2 ⊢
  exact ⟨v1, v2, rfl, h1, h2, h3⟩
theorem refRNums_no (hm : m ≤ 64) (h : rns m b = none) (hb : ∀ x ∈ b, x < 256) (hl : b.length ≤ 140737488355328) (hv : Byt w v b) : Calls Try.prog 30 #[v, .int .i64 (m : Nat)] w fun e w' => ∃ v1 v2, e = .returned (.tuple #[v1, v2, .int .i64 11]) ∧ Ext w w' := by
  refine (refReadNums_any v b m w hb hv hl).mono ?_
  rintro e w' ⟨v1, v2, rfl, h1, h2, h3⟩
  rw [rnO_of hm, h]
  exact ⟨v1, v2, rfl, h3⟩
end

set_option maxRecDepth 100000 in
set_option maxHeartbeats 1600000 in
theorem readAll_any {w : World} {v : Value} {b : List Nat} (m : Nat) (hm : m ≤ 32) (hb : ∀ x ∈ b, x < 256) (hlen : b.length ≤ 140737488355328) (hv : Byt w v b) :
    Calls Try.prog 69 #[v, .int .i64 (m : Nat)] w fun e w' => ∃ v', e = .returned (.tuple #[v', .bool (rdAll m b).isSome]) ∧ Ext w w' ∧ OwnT w.heap.size w' v' ((rdAll m b).getD []) := by
  refine calls_keep ?_
  replace hlen := hide_ hlen
  have hm32 : 2 * m ≤ 64 := by omega
  have No : rdAll m b = none → Hid (∀ e w', e = .returned (.tuple #[.slice none 0 0, .bool false]) → Ext w w' → Keep (fun e w' => ∃ v', e = .returned (.tuple #[v', .bool (rdAll m b).isSome]) ∧ Ext w w' ∧ OwnT w.heap.size w' v' ((rdAll m b).getD [])) e w') := fun h => hide_ (fun e w' he hx => Keep.intro ⟨.slice none 0 0, by rw [he, h]; rfl, hx, by rw [h]; exact OwnT.nil _ _⟩)
  have c1 : IntKind.i64.wrap ((m : Int) * 2) = ((2 * m : Nat) : Int) := by rw [IntWalk.i64_in _ (by omega)]; omega
  cases hr : rns (2 * m) b with
  | none =>
    replace No := No (rdAll_c1 hr)
    replace hr := hide_ hr
    go_enter Try.func69, Try.ntmps69
    go_wp2_with (first
      | (go_at_call 59; refine (RNums_no hm32 hr.out hb hlen.out hv).mono ?_; rintro e w1 ⟨v1, v2, rfl, hx1⟩)
      | fail)
    go_ret2
    exact No.out _ _ rfl hx1
  | some p =>
    obtain ⟨xs, s⟩ := p
    by_cases hs : s = []
    rotate_left
    · have t1 : decide (0 < s.length) = true := by
        have : 0 < s.length := List.length_pos_iff.2 hs
        exact decide_eq_true this
      replace No := No (rdAll_c2 hr hs)
      replace hr := hide_ hr
      clear hs
      go_enter Try.func69, Try.ntmps69
      go_wp2_with ((first
        | (go_at_call 59; refine (RNums_yes hm32 hr.out hb hlen.out hv).mono ?_; rintro e w1 ⟨v1, v2, rfl, i1, b2, hx1⟩)
        | ((try refine w_yes _ _ _ rfl rfl rfl ?_); refine b_len _ rfl rfl (v := v2) rfl b2 ?_)
        | fail) <;> (try simp only [Act.put, List.setIfInBounds_toArray, List.set_cons_zero, List.set_cons_succ]))
      go_ret2
      exact No.out _ _ rfl hx1
    subst hs
    have t1 : decide (0 < ([] : List Nat).length) = false := rfl
    obtain ⟨_, hxl, hxi⟩ := rns_was (2 * m) b xs [] hb hr
    obtain ⟨_, hpl⟩ := txNums_pairs m xs hxl
    have hpg := hide_ (fun k d => pairs_get m xs k d hxl)
    have hxl' := hide_ hxl
    have hxi' := hide_ hxi
    have hr' := hide_ hr
    replace hr := hide_ hr
    clear hxl hxi
    go_enter Try.func69, Try.ntmps69
    go_wp2_with ((first
      | (go_at_call 59; refine (RNums_yes hm32 hr.out hb hlen.out hv).mono ?_; rintro e w1 ⟨v1, v2, rfl, i1, b2, hx1⟩)
      | ((try refine w_yes _ _ _ rfl rfl rfl ?_); refine b_len _ rfl rfl (v := v2) rfl b2 ?_)
      | fail) <;> (try simp only [Act.put, List.setIfInBounds_toArray, List.set_cons_zero, List.set_cons_succ]))
    go_loopw [9, 28] (fun vr i wr => ∃ k : Nat, i = .int .i64 k ∧ k ≤ m ∧ Hid (∀ t ∈ (pairs xs).take k, t.Right) ∧ OwnT w1.heap.size wr vr ((pairs xs).take k) ∧ Ext w1 wr) (fun _ i _ => m - (intOf i).toNat)
    case atStart => exact ⟨0, rfl, Nat.zero_le _, hide_ (by simp), OwnT.nil _ _, Ext.refl _⟩
    case round =>
      obtain ⟨k, rfl, hk, hall, hO, hX⟩ := hrel
      by_cases hge : m ≤ k
      · obtain rfl : k = m := by omega
        have t2 : decide (k < k) = false := by simp
        have he : (pairs xs).take k = pairs xs := List.take_of_length_le (by omega)
        rw [he] at hO hall
        have hfin := hide_ (rdAll_c4 hr'.out hall.out)
        clear he hge
        go_wp2
        go_ret2
        exact Keep.intro ⟨_, by rw [hfin.out]; rfl, hx1.trans hX, by rw [hfin.out]; exact hO.mono hx1.size⟩
      have hlt : k < m := by omega
      have t2 : decide (k < m) = true := by simpa using hlt
      obtain ⟨d, hd⟩ : ∃ d, (pairs xs)[k]? = some d := ⟨_, List.getElem?_eq_getElem (by omega)⟩
      have hdm : d ∈ pairs xs := List.mem_of_getElem? hd
      obtain ⟨hx0, hx1'⟩ := hpg.out k d hd
      have e0 := hide_ (show ∃ h : 2 * k < xs.length, xs[2 * k] = d.id from List.getElem?_eq_some_iff.1 hx0)
      have e1 := hide_ (show ∃ h : 2 * k + 1 < xs.length, xs[2 * k + 1] = d.fee from List.getElem?_eq_some_iff.1 hx1')
      have hdraw := hide_ (show d.Raw from by
        have h0 := hxi'.out d.id (List.mem_of_getElem? hx0)
        have h1 := hxi'.out d.fee (List.mem_of_getElem? hx1')
        exact ⟨by omega, by omega⟩)
      have htk : (pairs xs).take (k + 1) = (pairs xs).take k ++ [d] := by rw [List.take_add_one, hd]; rfl
      have hbig := hide_ (show (((pairs xs).take k |>.map TxD.row).length + [d.row].length) * 16 ≤ 140737488355328 from by simp; omega)
      have j0 := (i1.ext hX)
      clear hx0 hx1' hge
      by_cases hdr : d.Right
      · have hdec := hide_ (decide_eq_true hdr)
        have hall2 := hide_ (show ∀ t ∈ (pairs xs).take (k + 1), t.Right from fun t ht => by
          rw [htk] at ht
          rcases List.mem_append.1 ht with ht | ht
          · exact hall.out t ht
          · rw [List.mem_singleton] at ht; subst ht; exact hdr)
        have htk' := hide_ htk
        clear htk hall hdr hdm
        go_wp2
        refine wp_region_phx (by kernel_rfl) ?_; intro wd hxd; have j1 := j0.ext hxd; replace hO := hO.ext hxd; replace hX := hX.trans hxd
        refine Ph.gate 0 13 (by kernel_rfl) ?_
        refine LinL.step (s := (.val (v1))) [(6, none)] rfl (by kernel_rfl) (op_out 6 (v1) rfl (.inl rfl) rfl) ?_
        refine LinL.step (s := (.val (.int .i64 (k : Nat)))) [(10, none)] rfl (by kernel_rfl) (op_out 10 (.int .i64 (k : Nat)) rfl (.inl rfl) rfl) ?_
        refine LinL.step (s := (.val (.int .i64 ((2 * k : Nat) : Int)))) [(32, some 0)] rfl (by kernel_rfl) (op_runs rfl fun σ w' hx hg => ⟨_, runs_mul (ρ := σ.eval) (w := w') (.tmp 32) (.const (.int .i64 2)) (((2 * k : Nat) : Int)) (by omega) (by omega) rfl hg.1 rfl, rfl⟩) ?_
        refine LinL.step (s := (Sp.ptr (.int .i64 (d.id)))) [(31, some 2), (33, some 0)] rfl (by kernel_rfl) (op_runs rfl fun σ w' hx hg => rptri (ρ := σ.eval) (w := w') (.tmp 31) (.tmp 33) rfl hg.1 (j1.ext hx) ((2 * k)) hg.2.1 e0.out.choose e0.out.choose_spec) ?_
        refine LinL.step (s := (.val (.int .i64 (d.id : Int)))) [(34, some 0)] rfl (by kernel_rfl) (op_runs rfl fun σ w' hx hg => ⟨_, runs_load (ρ := σ.eval) (w := w') (.tmp 34) rfl Try.underlying3 rfl hg.1, rfl⟩) ?_
        refine LinL.step (s := (.val (v1))) [(6, none)] rfl (by kernel_rfl) (op_out 6 (v1) rfl (.inl rfl) rfl) ?_
        refine LinL.step (s := (.val (.int .i64 (k : Nat)))) [(10, none)] rfl (by kernel_rfl) (op_out 10 (.int .i64 (k : Nat)) rfl (.inl rfl) rfl) ?_
        refine LinL.step (s := (.val (.int .i64 ((2 * k : Nat) : Int)))) [(37, some 0)] rfl (by kernel_rfl) (op_runs rfl fun σ w' hx hg => ⟨_, runs_mul (ρ := σ.eval) (w := w') (.tmp 37) (.const (.int .i64 2)) (((2 * k : Nat) : Int)) (by omega) (by omega) rfl hg.1 rfl, rfl⟩) ?_
        refine LinL.step (s := (.val (.int .i64 ((2 * k + 1 : Nat) : Int)))) [(38, some 0)] rfl (by kernel_rfl) (op_runs rfl fun σ w' hx hg => ⟨_, runs_add (ρ := σ.eval) (w := w') (.tmp 38) (.const (.int .i64 1)) (((2 * k + 1 : Nat) : Int)) (by omega) (by omega) rfl hg.1 rfl, rfl⟩) ?_
        refine LinL.step (s := (Sp.ptr (.int .i64 (d.fee)))) [(36, some 3), (39, some 0)] rfl (by kernel_rfl) (op_runs rfl fun σ w' hx hg => rptri (ρ := σ.eval) (w := w') (.tmp 36) (.tmp 39) rfl hg.1 (j1.ext hx) ((2 * k + 1)) hg.2.1 e1.out.choose e1.out.choose_spec) ?_
        refine LinL.step (s := (.val (.int .i64 (d.fee : Int)))) [(40, some 0)] rfl (by kernel_rfl) (op_runs rfl fun σ w' hx hg => ⟨_, runs_load (ρ := σ.eval) (w := w') (.tmp 40) rfl Try.underlying3 rfl hg.1, rfl⟩) ?_
        refine LinL.step (s := (.val (.agg #[.int .i64 d.id, .int .i64 d.fee]))) [(35, some 6), (41, some 0)] rfl (by kernel_rfl) (op_runs rfl fun σ w' hx hg => ⟨_, runs_sbuild (ρ := σ.eval) (w := w') Try.stTx [.int .i64 d.id, .int .i64 d.fee] (ps := #[(0, .tmp 35), (1, .tmp 41)]) rfl (by have h35 : σ.tmps.getD 35 undef = .int .i64 (d.id : Int) := hg.1; have h41 : σ.tmps.getD 41 undef = .int .i64 (d.fee : Int) := hg.2.1; simp only [List.map_cons, List.map_nil, Act.eval, h35, h41, List.foldl_cons, List.foldl_nil, List.set_cons_zero, List.set_cons_succ]) (by have h35 : σ.tmps.getD 35 undef = .int .i64 (d.id : Int) := hg.1; have h41 : σ.tmps.getD 41 undef = .int .i64 (d.fee : Int) := hg.2.1; intro p hp; simp at hp; rcases hp with rfl | rfl; exact ⟨by decide, by show (σ.tmps.getD 35 undef).cells = #[σ.tmps.getD 35 undef]; rw [h35]; exact rfl⟩; exact ⟨by decide, by show (σ.tmps.getD 41 undef).cells = #[σ.tmps.getD 41 undef]; rw [h41]; exact rfl⟩), rfl⟩) ?_
        refine LinL.step (s := (Sp.fs wd.heap.size [.int .i64 0, .int .i64 0])) [] rfl (by kernel_rfl) (op_alloc Try.stTx (Nat.le_refl _) rfl rfl) ?_
        intro wN hxN
        simp only [Fin', Sp.ptr, Sp.fs, List.reverse_cons, List.reverse_nil, List.nil_append, List.cons_append, List.drop_zero, List.take_succ_cons, List.take_zero]
        intro q34 hq34 q40 hq40 q11 hq11
        simp only [Act.put, List.setIfInBounds_toArray, List.set_cons_zero, List.set_cons_succ]
        obtain ⟨g11, rfl, hg11, f11⟩ := hq11
        refine wpOp_of_list rfl ?_
        refine w_astore Try.stTx (us := [.int .i64 d.id, .int .i64 d.fee]) _ _ rfl rfl rfl rfl rfl f11 rfl rfl d.one ?_; intro w4 hm4 f4; replace f11 := f4; clear f4
        have hx4 : Ext wd w4 := hm4.after hxN (fun j e => e ▸ hg11)
        replace hO := hO.ext hx4; replace hX := hX.trans hx4
        show Ph Try.prog _ _ 14 _ _
        refine Ph.rest 14 0 (by kernel_rfl) ?_
        intro wN2 hxN2
        simp only [Fin', List.reverse_nil, List.drop_zero, List.drop_succ_cons, List.take_zero]
        replace f11 := f11.ext hxN2; replace hX := hX.trans hxN2; replace hO := hO.ext hxN2
        clear hxN2 hm4 hx4 hg11 hxN j1 j0 hq34 hq40
        go_wp2_with ((first
          | (refine w_aload Try.stTx _ rfl rfl rfl f11 rfl ?_)
          | (go_at_call 63; refine (Right_any d _).mono ?_; rintro e w5 ⟨rfl, hx5⟩; rw [hdec.out]; replace f11 := f11.ext hx5; replace hX := hX.trans hx5; replace hO := hO.ext hx5; clear hx5)
          | (refine w_nnew Try.elTxN [d.row] rfl rfl rfl (by simp [TxD.row]) rfl (by omega) ?_; intro vl w6 B hB1 hB2 hx6 hn6; have hl6 := hn6.slS; replace hX := hX.trans hx6; replace hO := hO.ext hx6; clear f11 hn6 hB1 hB2 hx6)
          | (refine w_napp Try.elTxN _ _ rfl rfl rfl rfl hO.own hl6 (by simp) (by intro y hy; simp at hy; subst hy; exact d.one) hbig.out ?_; intro v9 w7 hm7 hn7; have hO2 := hO.app hX.size hdraw.out hn7; replace hX := hm7.after hX hO.new; replace hO := hO2; clear hO2 hm7 hn7 hl6)
          | fail) <;> (try simp only [Act.put, List.setIfInBounds_toArray, List.set_cons_zero, List.set_cons_succ]))
        go_roundw
        case rel => exact ⟨k + 1, by go_num, by omega, hall2, by rw [htk'.out]; exact hO, hX⟩
        case measure => simp [intOf]; omega
      · have hdec := hide_ (decide_eq_false hdr)
        replace No := No (rdAll_c3 hr'.out hdm hdr)
        clear htk hall hdr hdm
        go_wp2
        refine wp_region_phx (by kernel_rfl) ?_; intro wd hxd; have j1 := j0.ext hxd; replace hO := hO.ext hxd; replace hX := hX.trans hxd
        refine Ph.gate 0 13 (by kernel_rfl) ?_
        refine LinL.step (s := (.val (v1))) [(6, none)] rfl (by kernel_rfl) (op_out 6 (v1) rfl (.inl rfl) rfl) ?_
        refine LinL.step (s := (.val (.int .i64 (k : Nat)))) [(10, none)] rfl (by kernel_rfl) (op_out 10 (.int .i64 (k : Nat)) rfl (.inl rfl) rfl) ?_
        refine LinL.step (s := (.val (.int .i64 ((2 * k : Nat) : Int)))) [(32, some 0)] rfl (by kernel_rfl) (op_runs rfl fun σ w' hx hg => ⟨_, runs_mul (ρ := σ.eval) (w := w') (.tmp 32) (.const (.int .i64 2)) (((2 * k : Nat) : Int)) (by omega) (by omega) rfl hg.1 rfl, rfl⟩) ?_
        refine LinL.step (s := (Sp.ptr (.int .i64 (d.id)))) [(31, some 2), (33, some 0)] rfl (by kernel_rfl) (op_runs rfl fun σ w' hx hg => rptri (ρ := σ.eval) (w := w') (.tmp 31) (.tmp 33) rfl hg.1 (j1.ext hx) ((2 * k)) hg.2.1 e0.out.choose e0.out.choose_spec) ?_
        refine LinL.step (s := (.val (.int .i64 (d.id : Int)))) [(34, some 0)] rfl (by kernel_rfl) (op_runs rfl fun σ w' hx hg => ⟨_, runs_load (ρ := σ.eval) (w := w') (.tmp 34) rfl Try.underlying3 rfl hg.1, rfl⟩) ?_
        refine LinL.step (s := (.val (v1))) [(6, none)] rfl (by kernel_rfl) (op_out 6 (v1) rfl (.inl rfl) rfl) ?_
        refine LinL.step (s := (.val (.int .i64 (k : Nat)))) [(10, none)] rfl (by kernel_rfl) (op_out 10 (.int .i64 (k : Nat)) rfl (.inl rfl) rfl) ?_
        refine LinL.step (s := (.val (.int .i64 ((2 * k : Nat) : Int)))) [(37, some 0)] rfl (by kernel_rfl) (op_runs rfl fun σ w' hx hg => ⟨_, runs_mul (ρ := σ.eval) (w := w') (.tmp 37) (.const (.int .i64 2)) (((2 * k : Nat) : Int)) (by omega) (by omega) rfl hg.1 rfl, rfl⟩) ?_
        refine LinL.step (s := (.val (.int .i64 ((2 * k + 1 : Nat) : Int)))) [(38, some 0)] rfl (by kernel_rfl) (op_runs rfl fun σ w' hx hg => ⟨_, runs_add (ρ := σ.eval) (w := w') (.tmp 38) (.const (.int .i64 1)) (((2 * k + 1 : Nat) : Int)) (by omega) (by omega) rfl hg.1 rfl, rfl⟩) ?_
        refine LinL.step (s := (Sp.ptr (.int .i64 (d.fee)))) [(36, some 3), (39, some 0)] rfl (by kernel_rfl) (op_runs rfl fun σ w' hx hg => rptri (ρ := σ.eval) (w := w') (.tmp 36) (.tmp 39) rfl hg.1 (j1.ext hx) ((2 * k + 1)) hg.2.1 e1.out.choose e1.out.choose_spec) ?_
        refine LinL.step (s := (.val (.int .i64 (d.fee : Int)))) [(40, some 0)] rfl (by kernel_rfl) (op_runs rfl fun σ w' hx hg => ⟨_, runs_load (ρ := σ.eval) (w := w') (.tmp 40) rfl Try.underlying3 rfl hg.1, rfl⟩) ?_
        refine LinL.step (s := (.val (.agg #[.int .i64 d.id, .int .i64 d.fee]))) [(35, some 6), (41, some 0)] rfl (by kernel_rfl) (op_runs rfl fun σ w' hx hg => ⟨_, runs_sbuild (ρ := σ.eval) (w := w') Try.stTx [.int .i64 d.id, .int .i64 d.fee] (ps := #[(0, .tmp 35), (1, .tmp 41)]) rfl (by have h35 : σ.tmps.getD 35 undef = .int .i64 (d.id : Int) := hg.1; have h41 : σ.tmps.getD 41 undef = .int .i64 (d.fee : Int) := hg.2.1; simp only [List.map_cons, List.map_nil, Act.eval, h35, h41, List.foldl_cons, List.foldl_nil, List.set_cons_zero, List.set_cons_succ]) (by have h35 : σ.tmps.getD 35 undef = .int .i64 (d.id : Int) := hg.1; have h41 : σ.tmps.getD 41 undef = .int .i64 (d.fee : Int) := hg.2.1; intro p hp; simp at hp; rcases hp with rfl | rfl; exact ⟨by decide, by show (σ.tmps.getD 35 undef).cells = #[σ.tmps.getD 35 undef]; rw [h35]; exact rfl⟩; exact ⟨by decide, by show (σ.tmps.getD 41 undef).cells = #[σ.tmps.getD 41 undef]; rw [h41]; exact rfl⟩), rfl⟩) ?_
        refine LinL.step (s := (Sp.fs wd.heap.size [.int .i64 0, .int .i64 0])) [] rfl (by kernel_rfl) (op_alloc Try.stTx (Nat.le_refl _) rfl rfl) ?_
        intro wN hxN
        simp only [Fin', Sp.ptr, Sp.fs, List.reverse_cons, List.reverse_nil, List.nil_append, List.cons_append, List.drop_zero, List.take_succ_cons, List.take_zero]
        intro q34 hq34 q40 hq40 q11 hq11
        simp only [Act.put, List.setIfInBounds_toArray, List.set_cons_zero, List.set_cons_succ]
        obtain ⟨g11, rfl, hg11, f11⟩ := hq11
        refine wpOp_of_list rfl ?_
        refine w_astore Try.stTx (us := [.int .i64 d.id, .int .i64 d.fee]) _ _ rfl rfl rfl rfl rfl f11 rfl rfl d.one ?_; intro w4 hm4 f4; replace f11 := f4; clear f4
        have hx4 : Ext wd w4 := hm4.after hxN (fun j e => e ▸ hg11)
        replace hO := hO.ext hx4; replace hX := hX.trans hx4
        show Ph Try.prog _ _ 14 _ _
        refine Ph.rest 14 0 (by kernel_rfl) ?_
        intro wN2 hxN2
        simp only [Fin', List.reverse_nil, List.drop_zero, List.drop_succ_cons, List.take_zero]
        replace f11 := f11.ext hxN2; replace hX := hX.trans hxN2; replace hO := hO.ext hxN2
        clear hxN2 hm4 hx4 hg11 hxN j1 j0 hq34 hq40
        go_wp2_with ((first
          | (refine w_aload Try.stTx _ rfl rfl rfl f11 rfl ?_)
          | (go_at_call 63; refine (Right_any d _).mono ?_; rintro e w5 ⟨rfl, hx5⟩; rw [hdec.out]; replace f11 := f11.ext hx5; replace hX := hX.trans hx5; replace hO := hO.ext hx5; clear hx5)
          | fail) <;> (try simp only [Act.put, List.setIfInBounds_toArray, List.set_cons_zero, List.set_cons_succ]))
        go_ret2
        exact No.out _ _ rfl (hx1.trans hX)
end Go.Proofs.Ytgbhbifdfcfamaa
namespace Go.Proofs.Ytgbhbifdfcfamaa
set_option maxRecDepth 100000
open Go.RowKit

/-! ### One transaction -/
theorem rdAll_one {b : List Nat} (hb : ∀ x ∈ b, x < 256) : rdAll 1 b = (rdTx b).map fun t => [t] := by
  cases h : rdTx b with
  | some t =>
    obtain ⟨h1, h2⟩ := rdTx_some hb h
    have := rdAll_yes (l := [t]) (by simpa using h1)
    rw [h2]; simpa [txNums] using this
  | none =>
    cases h2 : rdAll 1 b with
    | none => rfl
    | some l =>
      exfalso
      obtain ⟨h3, h4, h5⟩ := rdAll_some hb h2
      match l, h3 with
      | [t], _ =>
        have := rdTx_yes (h4 t (by simp))
        rw [show nuL t.nums = b from by rw [h5]; simp [txNums], h] at this
        cases this
section
variable {w : World} {v : Value} {b : List Nat} {t : TxD}
theorem readAll_1 (h : rdTx b = some t) (hb : ∀ x ∈ b, x < 256) (hlen : b.length ≤ 140737488355328) (hv : Byt w v b) :
    Calls Try.prog 69 #[v, .int .i64 1] w fun e w' => ∃ v', e = .returned (.tuple #[v', .bool true]) ∧ Ext w w' ∧ OwnT w.heap.size w' v' [t] := by
  have := readAll_any 1 (by omega) hb hlen hv
  rw [rdAll_one hb, h] at this; exact this
theorem readAll_0 (h : rdTx b = none) (hb : ∀ x ∈ b, x < 256) (hlen : b.length ≤ 140737488355328) (hv : Byt w v b) :
    Calls Try.prog 69 #[v, .int .i64 1] w fun e w' => ∃ v', e = .returned (.tuple #[v', .bool false]) ∧ Ext w w' := by
  have := readAll_any 1 (by omega) hb hlen hv
  rw [rdAll_one hb, h] at this
  refine this.mono ?_
  rintro e w' ⟨v', rfl, h1, _⟩
  exact ⟨v', rfl, h1⟩
end
def tOr (o : Option TxD) : TxD := match o with | some t => t | none => ⟨0, 0⟩
def oE {α : Type} (o : Option α) : Nat := match o with | some _ => 0 | none => 61

set_option maxRecDepth 100000 in
set_option maxHeartbeats 800000 in
theorem TRead_any {w : World} {v : Value} {b : List Nat} (hb : ∀ x ∈ b, x < 256) (hlen : b.length ≤ 140737488355328) (hv : Byt w v b) :
    Calls Try.prog 60 #[v] w fun e w' => e = .returned (.tuple #[.agg #[.int .i64 (tOr (rdTx b)).id, .int .i64 (tOr (rdTx b)).fee], .int .i64 (oE (rdTx b) : Nat)]) ∧ Ext w w' := by
  refine calls_keep ?_
  cases hr : rdTx b with
  | none =>
    replace hr := hide_ hr
    go_enter Try.func60, Try.ntmps60
    go_wp2_with ((first
      | (refine w_alloc Try.stTx rfl rfl ?_; intro g2 w1 hg2 hX f2)
      | (go_at_call 69; refine (readAll_0 hr.out hb hlen (hv.ext hX)).mono ?_; rintro e w2 ⟨v2, rfl, hx2⟩; replace f2 := f2.ext hx2; replace hX := hX.trans hx2; clear hx2)
      | (refine w_sbuild Try.stTx [.int .i64 0, .int .i64 0] rfl rfl rfl (by intro p hp; simp at hp) ?_)
      | (refine w_astore Try.stTx (us := [.int .i64 0, .int .i64 0]) _ _ rfl rfl rfl rfl rfl f2 rfl rfl (TxD.one ⟨0, 0⟩) ?_; intro w8 hm8 f8; have hX8 := hm8.after hX (fun i e => e ▸ hg2))
      | fail) <;> (try simp only [Act.put, List.setIfInBounds_toArray, List.set_cons_zero, List.set_cons_succ]))
    exact bodyPost_ret (ret_two Try.stTx rfl rfl rfl f8 rfl) rfl (Keep.intro ⟨rfl, hX8⟩)
  | some t =>
    replace hr := hide_ hr
    go_enter Try.func60, Try.ntmps60
    go_wp2_with ((first
      | (refine w_alloc Try.stTx rfl rfl ?_; intro g2 w1 hg2 hX f2)
      | (go_at_call 69; refine (readAll_1 hr.out hb hlen (hv.ext hX)).mono ?_; rintro e w2 ⟨v2, rfl, hx2, o2⟩; have r2 := o2.recs; replace f2 := f2.ext hx2; replace hX := hX.trans hx2; clear hx2 o2)
      | (refine w_ridx Try.elTx _ _ 0 rfl rfl rfl rfl r2 (by simp) ?_; rintro p row hrow hrl ⟨rfl, hraw⟩)
      | (refine w_pload Try.stTx _ rfl rfl rfl hrow rfl ?_)
      | (refine w_astore Try.stTx (us := [.int .i64 t.id, .int .i64 t.fee]) _ _ rfl rfl rfl rfl rfl f2 rfl rfl t.one ?_; intro w8 hm8 f8; have hX8 := hm8.after hX (fun i e => e ▸ hg2))
      | fail) <;> (try simp only [Act.put, List.setIfInBounds_toArray, List.set_cons_zero, List.set_cons_succ]))
    exact bodyPost_ret (ret_two Try.stTx rfl rfl rfl f8 rfl) rfl (Keep.intro ⟨rfl, hX8⟩)

/-! ### Lists -/
def tlB (l : List TxD) : List Nat := if LsOk l then lsB l else []
def tlE (l : List TxD) : Nat := if LsOk l then 0 else 61
theorem twice_false {l : List TxD} : twice l = false ↔ (l.map TxD.id).Nodup := by simp [twice]
theorem txNums_snoc (l : List TxD) (t : TxD) : txNums (l ++ [t]) = txNums l ++ t.nums := by simp [txNums]
theorem lsOk_of {l : List TxD} (h : l.length ≤ 3) (ht : twice l = false) (hr : ∀ t ∈ l, t.Right) : LsOk l := ⟨h, hr, twice_false.1 ht⟩
theorem nuL_tx_len {l : List TxD} (h : ∀ t ∈ l, t.Right) : (nuL (txNums l)).length ≤ 20 * l.length := by
  have h1 := nuL_len (txNums l) fun x hx => by have := txNums_rdb h x hx; omega
  rw [txNums_len] at h1; omega
theorem one_rdb {n : Nat} (h : n ≤ 400) : Rdb [(n : Int)] := fun x hx => by rw [List.mem_singleton] at hx; subst hx; omega
theorem nuL_one_len {n : Nat} (h : n ≤ 400) : (nuL [(n : Int)]).length ≤ 10 := by
  have := nuL_len [(n : Int)] fun x hx => by have := one_rdb h x hx; omega
  simpa using this

set_option maxRecDepth 100000 in
set_option maxHeartbeats 1600000 in
theorem TList_any {v : Value} {l : List TxD} {W : World} (hl : Recs 2 TxR W v l) :
    Calls Try.prog 73 #[v] W fun e w' => ∃ v', e = .returned (.tuple #[v', .int .i64 (tlE l : Nat)]) ∧ OwnB W.heap.size w' v' (tlB l) ∧ Ext W w' := by
  refine calls_keep ?_
  have No : ¬ LsOk l → Hid (∀ e w', e = .returned (.tuple #[.slice none 0 0, .int .i64 61]) → Ext W w' → Keep (fun e w' => ∃ v', e = .returned (.tuple #[v', .int .i64 (tlE l : Nat)]) ∧ OwnB W.heap.size w' v' (tlB l) ∧ Ext W w') e w') := fun h => hide_ (fun e w' he hx => Keep.intro ⟨.slice none 0 0, by rw [he, tlE, if_neg h]; rfl, by rw [tlB, if_neg h]; exact OwnB.nil _ _, hx⟩)
  have hX := Ext.refl W
  by_cases hbig : 3 < l.length
  · have t1 : decide ((3 : Int) < (l.length : Int)) = true := by simp; omega
    replace No := No fun h => by have := h.len; omega
    clear hbig
    go_enter Try.func73, Try.ntmps73
    go_wp2_with ((first
      | ((try refine w_yes _ _ _ rfl rfl rfl ?_); refine w_rlen Try.elTx _ rfl rfl (v := v) rfl (hl.ext TxR.stays hX) ?_)
      | fail) <;> (try simp only [Act.put, List.setIfInBounds_toArray, List.set_cons_zero, List.set_cons_succ]))
    go_ret2
    exact No.out _ _ rfl hX
  have t1 : decide ((3 : Int) < (l.length : Int)) = false := by simp; omega
  have hl3 : l.length ≤ 3 := by omega
  clear hbig
  cases htw : twice l with
  | true =>
    replace No := No fun h => by have := twice_false.2 h.ids; rw [htw] at this; cases this
    replace htw := hide_ htw
    go_enter Try.func73, Try.ntmps73
    go_wp2_with ((first
      | ((try refine w_yes _ _ _ rfl rfl rfl ?_); refine w_rlen Try.elTx _ rfl rfl (v := v) rfl (hl.ext TxR.stays hX) ?_)
      | ((try refine w_yes _ _ _ rfl rfl rfl ?_); go_at_call 78; refine (anyTwice_any (hl.ext TxR.stays hX)).mono ?_; rintro e w1 ⟨rfl, hx1⟩; rw [htw.out]; replace hX := hX.trans hx1; clear hx1)
      | fail) <;> (try simp only [Act.put, List.setIfInBounds_toArray, List.set_cons_zero, List.set_cons_succ]))
    go_ret2
    exact No.out _ _ rfl hX
  | false =>
    replace htw := hide_ htw
    have hrd := hide_ (one_rdb (n := l.length) (by omega))
    go_enter Try.func73, Try.ntmps73
    go_wp2_with ((first
      | ((try refine w_yes _ _ _ rfl rfl rfl ?_); refine w_rlen Try.elTx _ rfl rfl (v := v) rfl (hl.ext TxR.stays hX) ?_)
      | ((try refine w_yes _ _ _ rfl rfl rfl ?_); go_at_call 78; refine (anyTwice_any (hl.ext TxR.stays hX)).mono ?_; rintro e w1 ⟨rfl, hx1⟩; rw [htw.out]; replace hX := hX.trans hx1; clear hx1)
      | (refine w_new Try.elI (i64s [(l.length : Int)]) rfl rfl rfl (i64s_cells _) rfl (by omega) ?_; intro v2 w3 hx3 o2; replace o2 : OwnI _ w3 v2 [(l.length : Int)] := o2; replace hX := hX.trans hx3; clear hx3)
      | (go_at_call 77; refine (Nums_yes hrd.out (by simp) o2.ints).mono ?_; rintro e w4 ⟨v3, rfl, o3, hx4⟩; replace o3 := o3.mono hX.size; replace hX := hX.trans hx4; clear o2 hx4)
      | fail) <;> (try simp only [Act.put, List.setIfInBounds_toArray, List.set_cons_zero, List.set_cons_succ]))
    go_loopw [4, 28] (fun vo i wr => ∃ k : Nat, i = .int .i64 k ∧ k ≤ l.length ∧ Hid (∀ t ∈ l.take k, t.Right) ∧ OwnB W.heap.size wr vo (nuL ((l.length : Int) :: txNums (l.take k))) ∧ Ext W wr) (fun _ i _ => l.length - (intOf i).toNat)
    case atStart => exact ⟨0, rfl, Nat.zero_le _, hide_ (by simp), o3, hX⟩
    case round =>
      clear o3 hX
      obtain ⟨k, rfl, hk, hall, o3, hX⟩ := hrel
      by_cases hge : l.length ≤ k
      · obtain rfl : k = l.length := by omega
        have t2 : decide (l.length < l.length) = false := by simp
        rw [List.take_length] at hall o3
        have hok := lsOk_of hl3 htw.out hall.out
        have e1 := hide_ (show tlE l = 0 from if_pos hok)
        have e2 := hide_ (show tlB l = lsB l from if_pos hok)
        clear hge hok
        go_wp2
        go_ret2
        exact Keep.intro ⟨_, by rw [e1.out]; rfl, by rw [e2.out]; exact o3, hX⟩
      have hlt : k < l.length := by omega
      have t2 : decide (k < l.length) = true := by simpa using hlt
      obtain ⟨d, hd⟩ : ∃ d, l[k] = d := ⟨_, rfl⟩
      have hlk := hide_ hd
      have hdm : d ∈ l := hd ▸ List.getElem_mem hlt
      have htk : l.take (k + 1) = l.take k ++ [d] := by rw [List.take_succ_eq_append_getElem hlt, hd]
      clear hge hd
      by_cases hdr : d.Right
      · have hall2 := hide_ (show ∀ t ∈ l.take (k + 1), t.Right from fun t ht => by
          rw [htk] at ht
          rcases List.mem_append.1 ht with ht | ht
          · exact hall.out t ht
          · rw [List.mem_singleton] at ht; subst ht; exact hdr)
        have hbig := hide_ (show (nuL ((l.length : Int) :: txNums (l.take k))).length + (nuL d.nums).length ≤ 140737488355328 from by
          have h1 := nuL_tx_len hall.out
          have h2 := nuL_one_len (n := l.length) (by omega)
          have h3 := nuL_len d.nums fun x hx => by have := hdr.rdb x hx; omega
          have e : (nuL ((l.length : Int) :: txNums (l.take k))) = nuL [(l.length : Int)] ++ nuL (txNums (l.take k)) := nuL_app [(l.length : Int)] _
          rw [e, List.length_append]
          simp [TxD.nums] at h3
          rw [List.length_take] at h1
          simp only [TxD.nums]
          omega)
        have hcat := hide_ (show nuL ((l.length : Int) :: txNums (l.take k)) ++ nuL d.nums = nuL ((l.length : Int) :: txNums (l.take (k + 1))) from by
          rw [htk, txNums_snoc, ← nuL_app]; rfl)
        replace hdr := hide_ hdr
        clear htk hall hdm
        go_wp2_with ((first
          | (refine w_ridx0 Try.elTx _ _ k TxR.stays rfl rfl (v := v) rfl rfl hl hX hlt ?_; rintro p row hrow hrl ⟨rfl, hraw⟩; rw [hlk.out] at hrow)
          | (refine w_pload Try.stTx _ rfl rfl rfl (hrow.ext hX) rfl ?_)
          | (refine w_alloc Try.stTx rfl rfl ?_; intro g7 w5 hg7 hx5 f7)
          | (refine w_astore Try.stTx (us := [.int .i64 d.id, .int .i64 d.fee]) _ _ rfl rfl rfl rfl rfl f7 rfl rfl d.one ?_; intro w6 hm6 f6; replace f7 := f6; have hx := hm6.after hx5 (fun i e => e ▸ hg7); replace o3 := o3.ext hx; replace hX := hX.trans hx; clear f6 hm6 hx5 hx hrow hrl hraw)
          | (refine w_aload Try.stTx _ rfl rfl rfl f7 rfl ?_)
          | (go_at_call 79; refine (TBytes_yes hdr.out _).mono ?_; rintro e w7 ⟨v8, rfl, o8, hx7⟩; have b8 := o8.byt; replace o3 := o3.ext hx7; replace hX := hX.trans hx7; clear o8 hx7 f7)
          | (refine appb _ _ rfl rfl rfl rfl o3 b8 hbig.out hX.size ?_; intro v9 w9 o9 hb9 hg9; replace hX := hX.trans' hb9; replace o3 := o9; clear b8 hb9 hg9 o9)
          | fail) <;> (try simp only [Act.put, List.setIfInBounds_toArray, List.set_cons_zero, List.set_cons_succ]))
        rw [hcat.out] at o3
        go_roundw
        case rel => exact ⟨k + 1, by go_num, by omega, hall2, o3, hX⟩
        case measure => simp [intOf]; omega
      · replace No := No fun h => hdr (h.right d hdm)
        replace hdr := hide_ hdr
        clear htk hall hdm
        go_wp2_with ((first
          | (refine w_ridx0 Try.elTx _ _ k TxR.stays rfl rfl (v := v) rfl rfl hl hX hlt ?_; rintro p row hrow hrl ⟨rfl, hraw⟩; rw [hlk.out] at hrow)
          | (refine w_pload Try.stTx _ rfl rfl rfl (hrow.ext hX) rfl ?_)
          | (refine w_alloc Try.stTx rfl rfl ?_; intro g7 w5 hg7 hx5 f7)
          | (refine w_astore Try.stTx (us := [.int .i64 d.id, .int .i64 d.fee]) _ _ rfl rfl rfl rfl rfl f7 rfl rfl d.one ?_; intro w6 hm6 f6; replace f7 := f6; have hx := hm6.after hx5 (fun i e => e ▸ hg7); replace o3 := o3.ext hx; replace hX := hX.trans hx; clear f6 hm6 hx5 hx hrow hrl hraw)
          | (refine w_aload Try.stTx _ rfl rfl rfl f7 rfl ?_)
          | (go_at_call 79; refine (TBytes_no hdr.out _).mono ?_; rintro e w7 ⟨v8, rfl, hx7⟩; replace hX := hX.trans hx7; clear hx7 f7)
          | fail) <;> (try simp only [Act.put, List.setIfInBounds_toArray, List.set_cons_zero, List.set_cons_succ]))
        go_ret2
        exact No.out _ _ rfl hX

/-! ### The list of bytes -/
def rdLs (b : List Nat) : Option (List TxD) := match rns 1 b with
  | some ([n], s) => if 0 ≤ n ∧ n ≤ 3 then (match rdAll n.toNat s with | some l => if twice l then none else some l | none => none) else none
  | _ => none
theorem rdLs_iff {b : List Nat} (hb : ∀ x ∈ b, x < 256) (l : List TxD) : rdLs b = some l ↔ IsLs b l := by
  constructor
  · intro h
    unfold rdLs at h
    split at h
    · rename_i n s hr
      split at h
      · rename_i hn
        split at h
        · rename_i l' hl
          split at h
          · cases h
          · rename_i ht
            cases h
            obtain ⟨h1, _, _⟩ := rns_was 1 b [n] s hb hr
            have hs : ∀ x ∈ s, x < 256 := fun x hx => hb x (by rw [h1]; exact List.mem_append_right _ hx)
            obtain ⟨h3, h4, h5⟩ := rdAll_some hs hl
            refine ⟨lsOk_of (by omega) (by simpa using ht) h4, ?_⟩
            rw [h1, h5, ← nuL_app]
            have e : n = (l.length : Int) := by omega
            rw [e]; rfl
        · cases h
      · cases h
    · cases h
  · rintro ⟨h1, h2⟩
    have hl := h1.len
    have e1 : b = nuL [(l.length : Int)] ++ nuL (txNums l) := by rw [h2, lsB, lsNums, ← nuL_app]; rfl
    have e2 : rns 1 b = some ([(l.length : Int)], nuL (txNums l)) := by rw [e1]; exact rns_yes (one_rdb (by omega)) _
    unfold rdLs
    rw [e2]
    simp only
    rw [if_pos (by omega), Int.toNat_natCast, rdAll_yes h1.right]
    simp only
    rw [twice_false.2 h1.ids]
    rfl
theorem rdLs_c1 {b : List Nat} (h : rns 1 b = none) : rdLs b = none := by unfold rdLs; rw [h]
theorem rdLs_c2 {b s : List Nat} {n : Int} (h : rns 1 b = some ([n], s)) (hn : ¬ (0 ≤ n ∧ n ≤ 3)) : rdLs b = none := by unfold rdLs; rw [h]; exact if_neg hn
theorem rdLs_c3 {b s : List Nat} {m : Nat} (h : rns 1 b = some ([(m : Int)], s)) (hm : m ≤ 3) : rdLs b = match rdAll m s with | some l => if twice l then none else some l | none => none := by
  unfold rdLs; rw [h]; exact if_pos (by omega)

set_option maxRecDepth 100000 in
set_option maxHeartbeats 1600000 in
theorem TReadList_any {w : World} {v : Value} {b : List Nat} (hb : ∀ x ∈ b, x < 256) (hlen : b.length ≤ 140737488355328) (hv : Byt w v b) :
    Calls Try.prog 70 #[v] w fun e w' => ∃ v', e = .returned (.tuple #[v', .int .i64 (oE (rdLs b) : Nat)]) ∧ Ext w w' ∧ OwnT w.heap.size w' v' ((rdLs b).getD []) := by
  refine calls_keep ?_
  have No : rdLs b = none → Hid (∀ e w', e = .returned (.tuple #[.slice none 0 0, .int .i64 61]) → Ext w w' → Keep (fun e w' => ∃ v', e = .returned (.tuple #[v', .int .i64 (oE (rdLs b) : Nat)]) ∧ Ext w w' ∧ OwnT w.heap.size w' v' ((rdLs b).getD [])) e w') := fun h => hide_ (fun e w' he hx => Keep.intro ⟨.slice none 0 0, by rw [he, h]; rfl, hx, by rw [h]; exact OwnT.nil _ _⟩)
  cases hr : rns 1 b with
  | none =>
    replace No := No (rdLs_c1 hr)
    replace hr := hide_ hr
    go_enter Try.func70, Try.ntmps70
    go_wp2_with (first
      | (go_at_call 59; refine (RNums_no (m := 1) (by omega) hr.out hb hlen hv).mono ?_; rintro e w1 ⟨v1, v2, rfl, hX⟩)
      | fail)
    go_ret2
    exact No.out _ _ rfl hX
  | some p =>
    obtain ⟨xs, s⟩ := p
    obtain ⟨hbs, hxl, hxi⟩ := rns_was 1 b xs s hb hr
    obtain ⟨n, rfl⟩ : ∃ n, xs = [n] := by
      match xs, hxl with
      | [n], _ => exact ⟨n, rfl⟩
    have hs : ∀ z ∈ s, z < 256 := fun z hz => hb z (by rw [hbs]; exact List.mem_append_right _ hz)
    have hslen : s.length ≤ 140737488355328 := by rw [hbs] at hlen; simp at hlen; omega
    clear hbs hxl hxi
    by_cases h0 : n < 0
    · have t1 : decide (n < 0) = true := by simpa using h0
      replace No := No (rdLs_c2 hr fun h => by omega)
      replace hr := hide_ hr
      clear h0
      go_enter Try.func70, Try.ntmps70
      go_wp2_with ((first
        | (go_at_call 59; refine (RNums_yes (m := 1) (by omega) hr.out hb hlen hv).mono ?_; rintro e w1 ⟨v1, v2, rfl, i1, b2, hX⟩)
        | (refine i_idx _ _ 0 rfl rfl (v := v1) rfl i1 rfl (by simp) ?_; intro ad had)
        | fail) <;> (try simp only [Act.put, List.setIfInBounds_toArray, List.set_cons_zero, List.set_cons_succ]))
      go_ret2
      exact No.out _ _ rfl hX
    have t1 : decide (n < 0) = false := by simpa using h0
    by_cases h3 : 3 < n
    · have t2 : decide (3 < n) = true := by simpa using h3
      replace No := No (rdLs_c2 hr fun h => by omega)
      replace hr := hide_ hr
      clear h0 h3
      go_enter Try.func70, Try.ntmps70
      go_wp2_with ((first
        | (go_at_call 59; refine (RNums_yes (m := 1) (by omega) hr.out hb hlen hv).mono ?_; rintro e w1 ⟨v1, v2, rfl, i1, b2, hX⟩)
        | (refine i_idx _ _ 0 rfl rfl (v := v1) rfl i1 rfl (by simp) ?_; intro ad had)
        | fail) <;> (try simp only [Act.put, List.setIfInBounds_toArray, List.set_cons_zero, List.set_cons_succ]))
      go_ret2
      exact No.out _ _ rfl hX
    obtain ⟨m, rfl⟩ := Int.eq_ofNat_of_zero_le (show 0 ≤ n by omega)
    have hm3 : m ≤ 3 := by omega
    have t2 : decide (3 < m) = false := by simp; omega
    have h3' := rdLs_c3 hr hm3
    replace hr := hide_ hr
    clear h0 h3 t1
    cases hra : rdAll m s with
    | none =>
      rw [hra] at h3'
      replace No := No h3'
      replace hra := hide_ hra
      clear h3'
      go_enter Try.func70, Try.ntmps70
      go_wp2_with ((first
        | (go_at_call 59; refine (RNums_yes (m := 1) (by omega) hr.out hb hlen hv).mono ?_; rintro e w1 ⟨v1, v2, rfl, i1, b2, hX⟩)
        | (refine i_idx _ _ 0 rfl rfl (v := v1) rfl i1 rfl (by simp) ?_; intro ad had)
        | (go_at_call 69; refine (readAll_any m (by omega) hs hslen b2).mono ?_; rintro e w2 ⟨v8, rfl, hx2, o8⟩; rw [hra.out] at o8 ⊢; replace o8 := o8.mono hX.size; replace hX := hX.trans hx2; clear hx2 b2)
        | fail) <;> (try simp only [Act.put, List.setIfInBounds_toArray, List.set_cons_zero, List.set_cons_succ]))
      go_ret2
      exact No.out _ _ rfl hX
    | some l =>
      rw [hra] at h3'
      replace hra := hide_ hra
      cases htw : twice l with
      | true =>
        simp only [htw, if_true] at h3'
        replace No := No h3'
        replace htw := hide_ htw
        clear h3'
        go_enter Try.func70, Try.ntmps70
        go_wp2_with ((first
          | (go_at_call 59; refine (RNums_yes (m := 1) (by omega) hr.out hb hlen hv).mono ?_; rintro e w1 ⟨v1, v2, rfl, i1, b2, hX⟩)
          | (refine i_idx _ _ 0 rfl rfl (v := v1) rfl i1 rfl (by simp) ?_; intro ad had)
          | (go_at_call 69; refine (readAll_any m (by omega) hs hslen b2).mono ?_; rintro e w2 ⟨v8, rfl, hx2, o8⟩; rw [hra.out] at o8 ⊢; replace o8 : OwnT _ w2 v8 l := o8; replace o8 := o8.mono hX.size; replace hX := hX.trans hx2; clear hx2 b2)
          | ((try refine w_yes _ _ _ rfl rfl rfl ?_); go_at_call 78; refine (anyTwice_any o8.recs).mono ?_; rintro e w3 ⟨rfl, hx3⟩; rw [htw.out]; replace o8 := o8.ext hx3; replace hX := hX.trans hx3; clear hx3)
          | fail) <;> (try simp only [Act.put, List.setIfInBounds_toArray, List.set_cons_zero, List.set_cons_succ]))
        go_ret2
        exact No.out _ _ rfl hX
      | false =>
        simp only [htw, Bool.false_eq_true, if_false] at h3'
        have hfin := hide_ h3'
        replace htw := hide_ htw
        clear h3'
        go_enter Try.func70, Try.ntmps70
        go_wp2_with ((first
          | (go_at_call 59; refine (RNums_yes (m := 1) (by omega) hr.out hb hlen hv).mono ?_; rintro e w1 ⟨v1, v2, rfl, i1, b2, hX⟩)
          | (refine i_idx _ _ 0 rfl rfl (v := v1) rfl i1 rfl (by simp) ?_; intro ad had)
          | (go_at_call 69; refine (readAll_any m (by omega) hs hslen b2).mono ?_; rintro e w2 ⟨v8, rfl, hx2, o8⟩; rw [hra.out] at o8 ⊢; replace o8 : OwnT _ w2 v8 l := o8; replace o8 := o8.mono hX.size; replace hX := hX.trans hx2; clear hx2 b2)
          | ((try refine w_yes _ _ _ rfl rfl rfl ?_); go_at_call 78; refine (anyTwice_any o8.recs).mono ?_; rintro e w3 ⟨rfl, hx3⟩; rw [htw.out]; replace o8 := o8.ext hx3; replace hX := hX.trans hx3; clear hx3)
          | fail) <;> (try simp only [Act.put, List.setIfInBounds_toArray, List.set_cons_zero, List.set_cons_succ]))
        go_ret2
        exact Keep.intro ⟨_, by rw [hfin.out]; rfl, hX, by rw [hfin.out]; exact o8⟩
end Go.Proofs.Ytgbhbifdfcfamaa
namespace Go.Proofs.Ytgbhbifdfcfamaa
set_option maxRecDepth 100000
open Go.RowKit

theorem lsNums_len (l : List TxD) : (lsNums l).length = 1 + 2 * l.length := by simp [lsNums, txNums_len]; omega

set_option maxRecDepth 100000 in
set_option maxHeartbeats 1600000 in
theorem refTList_any {v : Value} {l : List TxD} {W : World} (hl : Recs 2 TxR W v l) :
    Calls Try.prog 53 #[v] W fun e w' => ∃ v', e = .returned (.tuple #[v', .int .i64 (tlE l : Nat)]) ∧ OwnB W.heap.size w' v' (tlB l) ∧ Ext W w' := by
  refine calls_keep ?_
  have No : ¬ LsOk l → Hid (∀ e w', e = .returned (.tuple #[.slice none 0 0, .int .i64 61]) → Ext W w' → Keep (fun e w' => ∃ v', e = .returned (.tuple #[v', .int .i64 (tlE l : Nat)]) ∧ OwnB W.heap.size w' v' (tlB l) ∧ Ext W w') e w') := fun h => hide_ (fun e w' he hx => Keep.intro ⟨.slice none 0 0, by rw [he, tlE, if_neg h]; rfl, by rw [tlB, if_neg h]; exact OwnB.nil _ _, hx⟩)
  have hX := Ext.refl W
  by_cases hbig : 3 < l.length
  · have t1 : decide ((3 : Int) < (l.length : Int)) = true := by simp; omega
    replace No := No fun h => by have := h.len; omega
    clear hbig
    go_enter Try.func53, Try.ntmps53
    go_wp2_with ((first
      | (refine w_rlen Try.elTx _ rfl rfl (v := v) rfl (hl.ext TxR.stays hX) ?_)
      | fail) <;> (try simp only [Act.put, List.setIfInBounds_toArray, List.set_cons_zero, List.set_cons_succ]))
    go_ret2
    exact No.out _ _ rfl hX
  have t1 : decide ((3 : Int) < (l.length : Int)) = false := by simp; omega
  have hl3 : l.length ≤ 3 := by omega
  clear hbig
  go_enter Try.func53, Try.ntmps53
  go_wp2_with ((first
    | (refine w_rlen Try.elTx _ rfl rfl (v := v) rfl (hl.ext TxR.stays hX) ?_)
    | (refine w_new Try.elI (i64s [(l.length : Int)]) rfl rfl rfl (i64s_cells _) rfl (by omega) ?_; intro v2 w3 hx3 o2; replace o2 := OwnI.mono (show OwnI _ w3 v2 [(l.length : Int)] from o2) hX.size; replace hX := hX.trans hx3; clear hx3)
    | fail) <;> (try simp only [Act.put, List.setIfInBounds_toArray, List.set_cons_zero, List.set_cons_succ]))
  go_loopw [4, 17] (fun vo i wr => ∃ k : Nat, i = .int .i64 k ∧ k ≤ l.length ∧ Hid ((∀ t ∈ l.take k, t.Right) ∧ ∀ i j, i < j → j < k → ∀ x y, l[i]? = some x → l[j]? = some y → x.id ≠ y.id) ∧ OwnI W.heap.size wr vo ((l.length : Int) :: txNums (l.take k)) ∧ Ext W wr) (fun _ i _ => l.length - (intOf i).toNat)
  case atStart => exact ⟨0, rfl, Nat.zero_le _, hide_ ⟨by simp, fun i j _ h => by omega⟩, o2, hX⟩
  case round =>
    clear o2 hX
    obtain ⟨k, rfl, hk, hall, o2, hX⟩ := hrel
    by_cases hge : l.length ≤ k
    · obtain rfl : k = l.length := by omega
      have t2 : decide (l.length < l.length) = false := by simp
      rw [List.take_length] at hall o2
      have hok := lsOk_of hl3 (twice_no fun i j hij hj => hall.out.2 i j hij hj) hall.out.1
      have e1 := hide_ (show tlE l = 0 from if_pos hok)
      have e2 := hide_ (show tlB l = nuL ((l.length : Int) :: txNums l) from if_pos hok)
      have hrd := hide_ (show Rdb ((l.length : Int) :: txNums l) from hok.rdb)
      have hlen := hide_ (show ((l.length : Int) :: txNums l).length ≤ 64 from by have := lsNums_len l; unfold lsNums at this; omega)
      clear hge hok
      go_wp2_with (first
        | (go_at_call 36; refine (refNums_yes hrd.out hlen.out o2.ints).mono ?_; rintro e w4 ⟨v3, rfl, o3, hx4⟩; replace o3 := o3.mono hX.size; replace hX := hX.trans hx4; clear o2 hx4)
        | fail)
      go_ret2
      exact Keep.intro ⟨_, by rw [e1.out]; rfl, by rw [e2.out]; exact o3, hX⟩
    have hlt : k < l.length := by omega
    have t2 : decide (k < l.length) = true := by simpa using hlt
    obtain ⟨d, hd⟩ : ∃ d, l[k] = d := ⟨_, rfl⟩
    have hdk := hide_ (show l[k]? = some d from by rw [List.getElem?_eq_getElem hlt, hd])
    have hlk := hide_ hd
    have hdm : d ∈ l := hd ▸ List.getElem_mem hlt
    have htk := hide_ (show (l.take k).length = k from by simp; omega)
    clear hge hd
    by_cases hdr : d.Right
    rotate_left
    · replace No := No fun h => hdr (h.right d hdm)
      have hdec := hide_ (decide_eq_false hdr)
      clear hall hdm hdr
      go_wp2_with ((first
        | (refine w_ridx0 Try.elTx _ _ k TxR.stays rfl rfl (v := v) rfl rfl hl hX hlt ?_; rintro p row hrow hrl ⟨rfl, hraw⟩; rw [hlk.out] at hrow)
        | (refine w_pload Try.stTx _ rfl rfl rfl (hrow.ext hX) rfl ?_)
        | (refine w_alloc Try.stTx rfl rfl ?_; intro g6 w4 hg6 hx4 f6)
        | (refine w_astore Try.stTx (us := [.int .i64 d.id, .int .i64 d.fee]) _ _ rfl rfl rfl rfl rfl f6 rfl rfl d.one ?_; intro w5 hm5 f5; replace f6 := f5; have hx := hm5.after hx4 (fun i e => e ▸ hg6); replace o2 := o2.ext hx; replace hX := hX.trans hx; clear f5 hm5 hx4 hg6 hx hrow hrl hraw)
        | (refine w_aload Try.stTx _ rfl rfl rfl f6 rfl ?_)
        | (go_at_call 51; refine (refRight_any d _).mono ?_; rintro e w7 ⟨rfl, hx7⟩; rw [hdec.out]; replace f6 := f6.ext hx7; replace o2 := o2.ext hx7; replace hX := hX.trans hx7; clear hx7)
        | fail) <;> (try simp only [Act.put, List.setIfInBounds_toArray, List.set_cons_zero, List.set_cons_succ]))
      go_ret2
      exact No.out _ _ rfl hX
    have hdec := hide_ (decide_eq_true hdr)
    have hbig := hide_ (show (((l.length : Int) :: txNums (l.take k)).length + d.nums.length) * 8 ≤ 140737488355328 from by
      have := txNums_len (l.take k)
      rw [htk.out] at this
      simp [TxD.nums]; omega)
    clear hdm
    replace hdr := hide_ hdr
    go_wp2_with ((first
      | (refine w_ridx0 Try.elTx _ _ k TxR.stays rfl rfl (v := v) rfl rfl hl hX hlt ?_; rintro p row hrow hrl ⟨rfl, hraw⟩; rw [hlk.out] at hrow)
      | (refine w_pload Try.stTx _ rfl rfl rfl (hrow.ext hX) rfl ?_)
      | (refine w_alloc Try.stTx rfl rfl ?_; intro g6 w4 hg6 hx4 f6)
      | (refine w_astore Try.stTx (us := [.int .i64 d.id, .int .i64 d.fee]) _ _ rfl rfl rfl rfl rfl f6 rfl rfl d.one ?_; intro w5 hm5 f5; replace f6 := f5; have hx := hm5.after hx4 (fun i e => e ▸ hg6); replace o2 := o2.ext hx; replace hX := hX.trans hx; clear f5 hm5 hx4 hg6 hx hrow hrl hraw)
      | (refine w_aload Try.stTx _ rfl rfl rfl f6 rfl ?_)
      | (go_at_call 51; refine (refRight_any d _).mono ?_; rintro e w7 ⟨rfl, hx7⟩; rw [hdec.out]; replace f6 := f6.ext hx7; replace o2 := o2.ext hx7; replace hX := hX.trans hx7; clear hx7)
      | (refine w_nto0 Try.elTx _ _ k rfl rfl (v := v) rfl rfl hl (by omega) ?_; intro vs hs)
      | (refine w_rlen Try.elTx _ rfl rfl (v := vs) rfl (hs.ext TxR.stays hX) ?_; rw [htk.out])
      | fail) <;> (try simp only [Act.put, List.setIfInBounds_toArray, List.set_cons_zero, List.set_cons_succ]))
    go_loopw [29] (fun i wr => ∃ j : Nat, i = .int .i64 j ∧ j ≤ k ∧ Hid (∀ i, i < j → ∀ x, l[i]? = some x → x.id ≠ d.id) ∧ Fs wr g6 [.int .i64 d.id, .int .i64 d.fee] ∧ OwnI W.heap.size wr u4 ((l.length : Int) :: txNums (l.take k)) ∧ Ext W wr) (fun i _ => k - (intOf i).toNat)
    case atStart => exact ⟨0, rfl, Nat.zero_le _, fun i h => by omega, f6, o2, hX⟩
    case round =>
      clear f6 hX o2
      obtain ⟨j, rfl, hj, hm, f6, o2, hX⟩ := hrel
      by_cases hjlt : j < k
      · have t3 : decide (j < k) = true := by simpa using hjlt
        obtain ⟨d2, hd2⟩ : ∃ d2, (l.take k)[j]'(by simp; omega) = d2 := ⟨_, rfl⟩
        have hdj := hide_ (show l[j]? = some d2 from by rw [← hd2, List.getElem_take, List.getElem?_eq_getElem])
        have hlj := hide_ hd2
        clear hd2
        cases hc : (d2.id == d.id)
        · have hm2 := hide_ (show ∀ i, i < j + 1 → ∀ x, l[i]? = some x → x.id ≠ d.id from fun i hi x hx => by
            by_cases hij : i < j
            · exact hm.out i hij x hx
            · obtain rfl : i = j := by omega
              rw [hdj.out] at hx; cases hx
              rw [beq_eq_false_iff_ne] at hc
              exact hc)
          clear hm
          go_wp2_with ((first
            | (refine w_ridx0 Try.elTx _ _ j TxR.stays rfl rfl (v := vs) rfl rfl hs hX (by rw [htk.out]; exact hjlt) ?_; rintro p row hrow hrl ⟨rfl, hraw⟩; rw [hlj.out] at hrow)
            | (refine w_pload Try.stTx _ rfl rfl rfl (hrow.ext hX) rfl ?_)
            | (refine w_alloc Try.stTx rfl rfl ?_; intro g8 w8 hg8 hx8 f8; have n68 : ¬ g6 = g8 := (by have := f6.lt; omega); replace f6 := f6.ext hx8)
            | (refine w_astore Try.stTx (us := [.int .i64 d2.id, .int .i64 d2.fee]) _ _ rfl rfl rfl rfl rfl f8 rfl rfl d2.one ?_; intro w9 hm9 f9; replace f8 := f9; have hx := hm9.after hx8 (fun i e => e ▸ hg8); replace f6 := f6.mod hm9 n68; replace o2 := o2.ext hx; replace hX := hX.trans hx; clear f9 hm9 hx8 hg8 hx hrow hrl hraw)
            | (refine w_field Try.stTx _ _ _ rfl rfl rfl (by omega) ?_)
            | (refine w_fload _ rfl rfl rfl f6 rfl (agg_of (by kernel_rfl)) ?_)
            | (refine w_fload _ rfl rfl rfl f8 rfl (agg_of (by kernel_rfl)) ?_)
            | fail) <;> (try simp only [Act.put, List.setIfInBounds_toArray, List.set_cons_zero, List.set_cons_succ]))
          go_roundw
          case rel => exact ⟨j + 1, by go_num, by omega, hm2, f6, o2, hX⟩
          case measure => simp [intOf]; omega
        · replace No := No fun h => by
            have h1 := twice_yes hjlt hdj.out hdk.out (by rw [beq_iff_eq] at hc; exact hc)
            rw [twice_false.2 h.ids] at h1; cases h1
          clear hm
          go_wp2_with ((first
            | (refine w_ridx0 Try.elTx _ _ j TxR.stays rfl rfl (v := vs) rfl rfl hs hX (by rw [htk.out]; exact hjlt) ?_; rintro p row hrow hrl ⟨rfl, hraw⟩; rw [hlj.out] at hrow)
            | (refine w_pload Try.stTx _ rfl rfl rfl (hrow.ext hX) rfl ?_)
            | (refine w_alloc Try.stTx rfl rfl ?_; intro g8 w8 hg8 hx8 f8; have n68 : ¬ g6 = g8 := (by have := f6.lt; omega); replace f6 := f6.ext hx8)
            | (refine w_astore Try.stTx (us := [.int .i64 d2.id, .int .i64 d2.fee]) _ _ rfl rfl rfl rfl rfl f8 rfl rfl d2.one ?_; intro w9 hm9 f9; replace f8 := f9; have hx := hm9.after hx8 (fun i e => e ▸ hg8); replace f6 := f6.mod hm9 n68; replace o2 := o2.ext hx; replace hX := hX.trans hx; clear f9 hm9 hx8 hg8 hx hrow hrl hraw)
            | (refine w_field Try.stTx _ _ _ rfl rfl rfl (by omega) ?_)
            | (refine w_fload _ rfl rfl rfl f6 rfl (agg_of (by kernel_rfl)) ?_)
            | (refine w_fload _ rfl rfl rfl f8 rfl (agg_of (by kernel_rfl)) ?_)
            | fail) <;> (try simp only [Act.put, List.setIfInBounds_toArray, List.set_cons_zero, List.set_cons_succ]))
          go_ret2
          exact No.out _ _ rfl hX
      · have t3 : decide (j < k) = false := by simpa using hjlt
        have htk1 : l.take (k + 1) = l.take k ++ [d] := by rw [List.take_succ_eq_append_getElem hlt, hlk.out]
        have hall2 := hide_ (show (∀ t ∈ l.take (k + 1), t.Right) ∧ ∀ i j, i < j → j < k + 1 → ∀ x y, l[i]? = some x → l[j]? = some y → x.id ≠ y.id from ⟨fun t ht => by
            rw [htk1] at ht
            rcases List.mem_append.1 ht with ht | ht
            · exact hall.out.1 t ht
            · rw [List.mem_singleton] at ht; subst ht; exact hdr.out, fun i j' hij hj' x y hx hy => by
            by_cases hjk : j' < k
            · exact hall.out.2 i j' hij hjk x y hx hy
            · obtain rfl : j' = k := by omega
              rw [hdk.out] at hy; cases hy
              exact hm.out i (by omega) x hx⟩)
        have hcat := hide_ (show ((l.length : Int) :: txNums (l.take k)) ++ d.nums = (l.length : Int) :: txNums (l.take (k + 1)) from by
          rw [htk1, txNums_snoc]; rfl)
        clear hm hall hjlt htk1
        go_wp2_with ((first
          | (refine w_field Try.stTx _ _ _ rfl rfl rfl (by omega) ?_)
          | (refine w_fload _ rfl rfl rfl f6 rfl (agg_of (by kernel_rfl)) ?_)
          | (refine w_new Try.elI (i64s d.nums) rfl rfl rfl (i64s_cells _) rfl (by omega) ?_; intro v3 w3 hx3 o3; have i3 : Ints w3 v3 d.nums := OwnI.ints (show OwnI _ w3 v3 d.nums from o3); replace o2 := o2.ext hx3; replace hX := hX.trans hx3; clear hx3 o3 f6)
          | (refine appi _ _ rfl rfl rfl rfl o2 i3 hbig.out hX.size ?_; intro v9 w9 o9 hb9 hg9 hh9; replace hX := hX.trans' hb9; replace o2 := o9; clear i3 hb9 hg9 o9 hh9)
          | fail) <;> (try simp only [Act.put, List.setIfInBounds_toArray, List.set_cons_zero, List.set_cons_succ]))
        rw [hcat.out] at o2
        go_roundw
        case rel => exact ⟨k + 1, by go_num, by omega, hall2, o2, hX⟩
        case measure => simp [intOf]; omega

/-! ### Two lists of transactions compared -/
theorem rtxne {o : Oper} {ρ : Operand → Value} {w : World} (x y : Operand) {t u : TxD} {b : Bool} (ho : o.op = .binOp .neq 43 x y 43) (hx : (Sp.recv TxR TxR.stays t).p (ρ x) w) (hy : (Sp.recv TxR TxR.stays u).p (ρ y) w) (hb : (!decide (t = u)) = b) :
    ∃ v', Runs Try.prog o ρ w v' ∧ (Sp.val (.bool b)).p v' w := by
  obtain ⟨row, h1, rfl, _⟩ := hx
  obtain ⟨row', h2, rfl, _⟩ := hy
  subst hb
  exact ⟨_, runs_txne x y t u ho h1 h2, rfl⟩

set_option maxRecDepth 100000 in
set_option maxHeartbeats 1600000 in
theorem Same_any {W : World} {a b : Value} {l m : List TxD} (ha0 : Recs 2 TxR W a l) (hb0 : Recs 2 TxR W b m) :
    Calls Try.prog 34 #[a, b] W fun e w' => e = .returned (.bool (decide (l = m))) ∧ Ext W w' := by
  refine calls_keep ?_
  have hmax : l.length ≤ 9223372036854775807 := by have := ha0.len_le; unfold maxLen at this; omega
  have ha := hide_ ha0
  have hb := hide_ hb0
  clear ha0 hb0
  by_cases hlm : l.length = m.length
  rotate_left
  · have t1 : ((l.length : Int) == (m.length : Int)) = false := by rw [beq_eq_false_iff_ne]; omega
    have hno := hide_ (show decide (l = m) = false from decide_eq_false fun h => hlm (by rw [h]))
    clear hlm
    go_enter Try.func34, Try.ntmps34
    go_wp2_with ((first
      | (refine w_rlen Try.elTx _ rfl rfl (v := a) rfl ha.out ?_)
      | (refine w_rlen Try.elTx _ rfl rfl (v := b) rfl hb.out ?_)
      | fail) <;> (try simp only [Act.put, List.setIfInBounds_toArray, List.set_cons_zero, List.set_cons_succ]))
    go_ret
    exact Keep.intro ⟨by rw [hno.out]; rfl, Ext.refl _⟩
  have t1 : ((l.length : Int) == (m.length : Int)) = true := by rw [beq_iff_eq]; omega
  replace hlm := hide_ hlm
  go_enter Try.func34, Try.ntmps34
  go_wp2_with ((first
    | (refine w_rlen Try.elTx _ rfl rfl (v := a) rfl ha.out ?_)
    | (refine w_rlen Try.elTx _ rfl rfl (v := b) rfl hb.out ?_)
    | fail) <;> (try simp only [Act.put, List.setIfInBounds_toArray, List.set_cons_zero, List.set_cons_succ]))
  go_loopw [13] (fun i wr => ∃ k : Nat, i = .int .i64 k ∧ k ≤ l.length ∧ Hid (l.take k = m.take k) ∧ Ext W wr) (fun i _ => l.length - (intOf i).toNat)
  case atStart => exact ⟨0, rfl, Nat.zero_le _, hide_ rfl, Ext.refl _⟩
  case round =>
    obtain ⟨k, rfl, hk, heq, hX⟩ := hrel
    by_cases hge : l.length ≤ k
    · obtain rfl : k = l.length := by omega
      have t2 : decide (l.length < l.length) = false := by simp
      have hyes := hide_ (show decide (l = m) = true from decide_eq_true (by have := heq.out; rw [List.take_length] at this; rw [hlm.out, List.take_length] at this; exact this))
      clear hge heq
      go_wp2
      go_ret
      exact Keep.intro ⟨by rw [hyes.out]; rfl, hX⟩
    have hlt : k < l.length := by omega
    have t2 : decide (k < l.length) = true := by simpa using hlt
    obtain ⟨d, hd0⟩ : ∃ d, l[k]? = some d := ⟨_, List.getElem?_eq_getElem hlt⟩
    obtain ⟨d2, hd20⟩ : ∃ d2, m[k]? = some d2 := ⟨_, List.getElem?_eq_getElem (by have := hlm.out; omega)⟩
    have hd := hide_ hd0
    have hd2 := hide_ hd20
    clear hge hd0 hd20
    by_cases hdd : d = d2
    · have hc := hide_ (show (!decide (d = d2)) = false from by simp [hdd])
      have heq2 := hide_ (show l.take (k + 1) = m.take (k + 1) from by rw [List.take_add_one, List.take_add_one, heq.out, hd.out, hd2.out, hdd])
      clear heq hdd
      go_wp2
      refine wp_region_phx (by kernel_rfl) ?_; intro wd hxd; have ha1 := ha.out.ext TxR.stays (hX.trans hxd); have hb1 := hb.out.ext TxR.stays (hX.trans hxd)
      refine Ph.rest 0 9 (by kernel_rfl) ?_
      refine LinL.step (s := (.val (a))) [(0, none)] rfl (by kernel_rfl) (op_out 0 (a) rfl (.inl rfl) rfl) ?_
      refine LinL.step (s := (.val (.int .i64 (k : Nat)))) [(5, none)] rfl (by kernel_rfl) (op_out 5 (.int .i64 (k : Nat)) rfl (.inl rfl) rfl) ?_
      refine LinL.step (s := (Sp.recp 2 TxR TxR.stays d)) [(16, some 1), (17, some 0)] rfl (by kernel_rfl) (op_runs rfl fun σ w' hx hg => rridx (ρ := σ.eval) (w := w') TxR.stays Try.elTx (.tmp 16) (.tmp 17) k rfl hg.1 hg.2.1 (ha1.ext TxR.stays hx) hd.out) ?_
      refine LinL.step (s := (Sp.recv TxR TxR.stays d)) [(18, some 0)] rfl (by kernel_rfl) (op_runs rfl fun σ w' hx hg => rrload (ρ := σ.eval) (w := w') TxR.stays Try.stTx (.tmp 18) rfl hg.1) ?_
      refine LinL.step (s := (.val (b))) [(1, none)] rfl (by kernel_rfl) (op_out 1 (b) rfl (.inl rfl) rfl) ?_
      refine LinL.step (s := (.val (.int .i64 (k : Nat)))) [(5, none)] rfl (by kernel_rfl) (op_out 5 (.int .i64 (k : Nat)) rfl (.inl rfl) rfl) ?_
      refine LinL.step (s := (Sp.recp 2 TxR TxR.stays d2)) [(20, some 1), (21, some 0)] rfl (by kernel_rfl) (op_runs rfl fun σ w' hx hg => rridx (ρ := σ.eval) (w := w') TxR.stays Try.elTx (.tmp 20) (.tmp 21) k rfl hg.1 hg.2.1 (hb1.ext TxR.stays hx) hd2.out) ?_
      refine LinL.step (s := (Sp.recv TxR TxR.stays d2)) [(22, some 0)] rfl (by kernel_rfl) (op_runs rfl fun σ w' hx hg => rrload (ρ := σ.eval) (w := w') TxR.stays Try.stTx (.tmp 22) rfl hg.1) ?_
      refine LinL.step (s := (.val (.bool false))) [(19, some 4), (23, some 0)] rfl (by kernel_rfl) (op_runs rfl fun σ w' hx hg => rtxne (ρ := σ.eval) (w := w') (.tmp 19) (.tmp 23) rfl hg.1 hg.2.1 hc.out) ?_
      intro wN hxN
      simp only [Fin', Sp.recp, Sp.recv, List.reverse_cons, List.reverse_nil, List.nil_append, List.cons_append, List.drop_zero, List.take_succ_cons, List.take_zero]
      intro q18 hq18 q19 hq19 q22 hq22 q23 hq23
      simp only [Act.put, List.setIfInBounds_toArray, List.set_cons_zero, List.set_cons_succ]
      replace hX := hX.trans (hxd.trans hxN)
      clear hxd hxN ha1 hb1 hq18 hq19 hq22 hq23
      go_wp2
      go_roundw
      case rel => exact ⟨k + 1, by go_num, by omega, heq2, hX⟩
      case measure => simp [intOf]; omega
    · have hc := hide_ (show (!decide (d = d2)) = true from by simp [hdd])
      have hno := hide_ (show decide (l = m) = false from decide_eq_false fun h => hdd (by subst h; have := hd.out.symm.trans hd2.out; injection this))
      clear heq hdd
      go_wp2
      refine wp_region_phx (by kernel_rfl) ?_; intro wd hxd; have ha1 := ha.out.ext TxR.stays (hX.trans hxd); have hb1 := hb.out.ext TxR.stays (hX.trans hxd)
      refine Ph.rest 0 9 (by kernel_rfl) ?_
      refine LinL.step (s := (.val (a))) [(0, none)] rfl (by kernel_rfl) (op_out 0 (a) rfl (.inl rfl) rfl) ?_
      refine LinL.step (s := (.val (.int .i64 (k : Nat)))) [(5, none)] rfl (by kernel_rfl) (op_out 5 (.int .i64 (k : Nat)) rfl (.inl rfl) rfl) ?_
      refine LinL.step (s := (Sp.recp 2 TxR TxR.stays d)) [(16, some 1), (17, some 0)] rfl (by kernel_rfl) (op_runs rfl fun σ w' hx hg => rridx (ρ := σ.eval) (w := w') TxR.stays Try.elTx (.tmp 16) (.tmp 17) k rfl hg.1 hg.2.1 (ha1.ext TxR.stays hx) hd.out) ?_
      refine LinL.step (s := (Sp.recv TxR TxR.stays d)) [(18, some 0)] rfl (by kernel_rfl) (op_runs rfl fun σ w' hx hg => rrload (ρ := σ.eval) (w := w') TxR.stays Try.stTx (.tmp 18) rfl hg.1) ?_
      refine LinL.step (s := (.val (b))) [(1, none)] rfl (by kernel_rfl) (op_out 1 (b) rfl (.inl rfl) rfl) ?_
      refine LinL.step (s := (.val (.int .i64 (k : Nat)))) [(5, none)] rfl (by kernel_rfl) (op_out 5 (.int .i64 (k : Nat)) rfl (.inl rfl) rfl) ?_
      refine LinL.step (s := (Sp.recp 2 TxR TxR.stays d2)) [(20, some 1), (21, some 0)] rfl (by kernel_rfl) (op_runs rfl fun σ w' hx hg => rridx (ρ := σ.eval) (w := w') TxR.stays Try.elTx (.tmp 20) (.tmp 21) k rfl hg.1 hg.2.1 (hb1.ext TxR.stays hx) hd2.out) ?_
      refine LinL.step (s := (Sp.recv TxR TxR.stays d2)) [(22, some 0)] rfl (by kernel_rfl) (op_runs rfl fun σ w' hx hg => rrload (ρ := σ.eval) (w := w') TxR.stays Try.stTx (.tmp 22) rfl hg.1) ?_
      refine LinL.step (s := (.val (.bool true))) [(19, some 4), (23, some 0)] rfl (by kernel_rfl) (op_runs rfl fun σ w' hx hg => rtxne (ρ := σ.eval) (w := w') (.tmp 19) (.tmp 23) rfl hg.1 hg.2.1 hc.out) ?_
      intro wN hxN
      simp only [Fin', Sp.recp, Sp.recv, List.reverse_cons, List.reverse_nil, List.nil_append, List.cons_append, List.drop_zero, List.take_succ_cons, List.take_zero]
      intro q18 hq18 q19 hq19 q22 hq22 q23 hq23
      simp only [Act.put, List.setIfInBounds_toArray, List.set_cons_zero, List.set_cons_succ]
      replace hX := hX.trans (hxd.trans hxN)
      go_wp2
      go_ret
      exact Keep.intro ⟨by rw [hno.out]; rfl, hX⟩
end Go.Proofs.Ytgbhbifdfcfamaa
namespace Go.Proofs.Ytgbhbifdfcfamaa
set_option maxRecDepth 100000
open Go.RowKit

theorem refRightR {w : World} (t : TxD) {b : Bool} (h : decide t.Right = b) : Calls Try.prog 51 #[.agg #[.int .i64 t.id, .int .i64 t.fee]] w fun e w' => ∃ v', e = .returned v' ∧ Ext w w' ∧ Sp.p (.val (.bool b)) v' w' := by
  refine (refRight_any t w).mono ?_
  rintro e w' ⟨rfl, hx⟩
  exact ⟨_, rfl, hx, by rw [h]; rfl⟩
theorem rdTx_c1 {b : List Nat} (h : rns 2 b = none) : rdTx b = none := by unfold rdTx; rw [h]
theorem rdTx_c2 {b s : List Nat} {i f : Int} (h : rns 2 b = some ([i, f], s)) (hs : s ≠ []) : rdTx b = none := by
  unfold rdTx; rw [h]
  cases s with
  | nil => exact absurd rfl hs
  | cons x s => rfl
theorem rdTx_c3 {b : List Nat} {i f : Int} (h : rns 2 b = some ([i, f], [])) (hr : ¬ (⟨i, f⟩ : TxD).Right) : rdTx b = none := by unfold rdTx; rw [h]; exact if_neg hr
theorem rdTx_c4 {b : List Nat} {i f : Int} (h : rns 2 b = some ([i, f], [])) (hr : (⟨i, f⟩ : TxD).Right) : rdTx b = some ⟨i, f⟩ := by unfold rdTx; rw [h]; exact if_pos hr

set_option maxRecDepth 100000 in
set_option maxHeartbeats 1600000 in
theorem refTRead_any {w : World} {v : Value} {b : List Nat} (hb : ∀ x ∈ b, x < 256) (hlen : b.length ≤ 140737488355328) (hv : Byt w v b) :
    Calls Try.prog 31 #[v] w fun e w' => e = .returned (.tuple #[.agg #[.int .i64 (tOr (rdTx b)).id, .int .i64 (tOr (rdTx b)).fee], .int .i64 (oE (rdTx b) : Nat)]) ∧ Ext w w' := by
  refine calls_keep ?_
  have No : rdTx b = none → Hid (∀ e w', e = .returned (.tuple #[.agg #[.int .i64 0, .int .i64 0], .int .i64 61]) → Ext w w' → Keep (fun e w' => e = .returned (.tuple #[.agg #[.int .i64 (tOr (rdTx b)).id, .int .i64 (tOr (rdTx b)).fee], .int .i64 (oE (rdTx b) : Nat)]) ∧ Ext w w') e w') := fun h => hide_ (fun e w' he hx => Keep.intro ⟨by rw [he, h]; rfl, hx⟩)
  cases hr : rns 2 b with
  | none =>
    replace No := No (rdTx_c1 hr)
    replace hr := hide_ hr
    go_enter Try.func31, Try.ntmps31
    go_wp2_with ((first
      | (refine w_alloc Try.stTx rfl rfl ?_; intro g2 w1 hg2 hX f2)
      | (go_at_call 30; refine (refRNums_no (m := 2) (by omega) hr.out hb hlen (hv.ext hX)).mono ?_; rintro e w2 ⟨v1, v2, rfl, hx2⟩; replace f2 := f2.ext hx2; replace hX := hX.trans hx2; clear hx2)
      | fail) <;> (try simp only [Act.put, List.setIfInBounds_toArray, List.set_cons_zero, List.set_cons_succ]))
    refine wp_region_phx (by kernel_rfl) ?_; intro wd hxd; replace f2 := f2.ext hxd; replace hX := hX.trans hxd
    refine Ph.rest 0 18 (by kernel_rfl) ?_
    refine LinL.step (s := (.val (.int .i64 11))) [(6, none)] rfl (by kernel_rfl) (op_out 6 (.int .i64 11) rfl (.inl rfl) rfl) ?_
    refine LinL.step (s := (.val (.bool true))) [(13, some 0)] rfl (by kernel_rfl) (op_runs rfl fun σ w' hx hg => ⟨(.bool true), by have h13 : σ.tmps.getD 13 undef = .int .i64 11 := hg.1; unfold Runs execOp; simp [Act.eval, h13, go_sem], rfl⟩) ?_
    refine LinL.step (s := (.val (.bool true))) [(14, some 0)] rfl (by kernel_rfl) (op_copy 14 0 (.val (.bool true)) rfl (.inl rfl) rfl) ?_
    refine LinL.step (s := .val undef) [(5, none), (15, some 0)] rfl (by kernel_rfl) (op_no (reads := [(5, none)]) 2 15 0 false rfl rfl rfl) ?_
    refine LinL.step (s := .val undef) [(16, some 0), (15, some 1)] rfl (by kernel_rfl) (op_no (reads := [(16, some 0)]) 2 15 1 false rfl rfl rfl) ?_
    refine LinL.step (s := .val undef) [(17, some 0), (15, some 2)] rfl (by kernel_rfl) (op_no (reads := [(17, some 0)]) 2 15 2 false rfl rfl rfl) ?_
    refine LinL.step (s := (.val (.bool true))) [(15, some 3), (18, some 0)] rfl (by kernel_rfl) (op_runs rfl fun σ w' hx hg => ⟨_, runs_pick_t (ρ := σ.eval) (w := w') (.tmp 15) (.const (.bool true)) (.tmp 18) rfl hg.1 rfl, rfl⟩) ?_
    refine LinL.step (s := (.val (.bool true))) [(19, some 0)] rfl (by kernel_rfl) (op_copy 19 0 (.val (.bool true)) rfl (.inl rfl) rfl) ?_
    refine LinL.step (s := .val undef) [(4, none), (20, some 0)] rfl (by kernel_rfl) (op_no (reads := [(4, none)]) 7 20 0 false rfl rfl rfl) ?_
    refine LinL.step (s := .val undef) [(21, some 0), (20, some 1)] rfl (by kernel_rfl) (op_no (reads := [(21, some 0)]) 7 20 1 false rfl rfl rfl) ?_
    refine LinL.step (s := .val undef) [(22, some 0), (20, some 2)] rfl (by kernel_rfl) (op_no (reads := [(22, some 0)]) 7 20 2 false rfl rfl rfl) ?_
    refine LinL.step (s := .val undef) [(4, none), (20, some 3)] rfl (by kernel_rfl) (op_no (reads := [(4, none)]) 7 20 3 false rfl rfl rfl) ?_
    refine LinL.step (s := .val undef) [(24, some 0), (20, some 4)] rfl (by kernel_rfl) (op_no (reads := [(24, some 0)]) 7 20 4 false rfl rfl rfl) ?_
    refine LinL.step (s := .val undef) [(25, some 0), (20, some 5)] rfl (by kernel_rfl) (op_no (reads := [(25, some 0)]) 7 20 5 false rfl rfl rfl) ?_
    refine LinL.step (s := .val undef) [(23, some 3), (26, some 0), (20, some 6)] rfl (by kernel_rfl) (op_no (reads := [(23, some 3), (26, some 0)]) 7 20 6 false rfl rfl rfl) ?_
    refine LinL.step (s := .val undef) [(27, some 0), (20, some 7)] rfl (by kernel_rfl) (op_no (reads := [(27, some 0)]) 7 20 7 false rfl rfl rfl) ?_
    refine LinL.step (s := .val undef) [(28, some 0), (20, some 8)] rfl (by kernel_rfl) (op_no (reads := [(28, some 0)]) 7 20 8 false rfl rfl rfl) ?_
    refine LinL.step (s := (.val (.bool true))) [(20, some 9), (29, some 0)] rfl (by kernel_rfl) (op_runs rfl fun σ w' hx hg => ⟨_, runs_pick_t (ρ := σ.eval) (w := w') (.tmp 20) (.const (.bool true)) (.tmp 29) rfl hg.1 rfl, rfl⟩) ?_
    intro wN hxN
    simp only [Fin', List.reverse_cons, List.reverse_nil, List.nil_append, List.cons_append, List.drop_zero, List.take_succ_cons, List.take_zero]
    simp only [Act.put, List.setIfInBounds_toArray, List.set_cons_zero, List.set_cons_succ]
    replace f2 := f2.ext hxN; replace hX := hX.trans hxN; clear hxN
    go_wp2_with ((first
      | (refine w_sbuild Try.stTx [.int .i64 0, .int .i64 0] rfl rfl rfl (by intro p hp; simp at hp) ?_)
      | (refine w_astore Try.stTx (us := [.int .i64 0, .int .i64 0]) _ _ rfl rfl rfl rfl rfl f2 rfl rfl (TxD.one ⟨0, 0⟩) ?_; intro w8 hm8 f8; have hX8 := hm8.after hX (fun i e => e ▸ hg2))
      | fail) <;> (try simp only [Act.put, List.setIfInBounds_toArray, List.set_cons_zero, List.set_cons_succ]))
    exact bodyPost_ret (ret_two Try.stTx rfl rfl rfl f8 rfl) rfl (No.out _ w8 rfl hX8)
  | some p =>
    obtain ⟨xs, s⟩ := p
    obtain ⟨_, hxl, _⟩ := rns_was 2 b xs s hb hr
    obtain ⟨i, f, rfl⟩ : ∃ i f, xs = [i, f] := by
      match xs, hxl with
      | [i, f], _ => exact ⟨i, f, rfl⟩
    clear hxl
    by_cases hs : s = []
    rotate_left
    · have t1 : 0 < s.length := List.length_pos_iff.2 hs
      replace No := No (rdTx_c2 hr hs)
      replace hr := hide_ hr
      clear hs
      go_enter Try.func31, Try.ntmps31
      go_wp2_with ((first
        | (refine w_alloc Try.stTx rfl rfl ?_; intro g2 w1 hg2 hX f2)
        | (go_at_call 30; refine (refRNums_yes (m := 2) (by omega) hr.out hb hlen (hv.ext hX)).mono ?_; rintro e w2 ⟨v1, v2, rfl, i1, b2, hx2⟩; replace f2 := f2.ext hx2; replace hX := hX.trans hx2; clear hx2)
        | fail) <;> (try simp only [Act.put, List.setIfInBounds_toArray, List.set_cons_zero, List.set_cons_succ]))
      refine wp_region_phx (by kernel_rfl) ?_; intro wd hxd; replace f2 := f2.ext hxd; replace hX := hX.trans hxd; replace i1 := i1.ext hxd; replace b2 := b2.ext hxd
      refine Ph.rest 0 18 (by kernel_rfl) ?_
      refine LinL.step (s := (.val (.int .i64 0))) [(6, none)] rfl (by kernel_rfl) (op_out 6 (.int .i64 0) rfl (.inl rfl) rfl) ?_
      refine LinL.step (s := (.val (.bool false))) [(13, some 0)] rfl (by kernel_rfl) (op_runs rfl fun σ w' hx hg => ⟨(.bool false), by have h13 : σ.tmps.getD 13 undef = .int .i64 0 := hg.1; unfold Runs execOp; simp [Act.eval, h13, go_sem], rfl⟩) ?_
      refine LinL.step (s := (.val (.bool false))) [(14, some 0)] rfl (by kernel_rfl) (op_copy 14 0 (.val (.bool false)) rfl (.inl rfl) rfl) ?_
      refine LinL.step (s := (.val (v2))) [(5, none), (15, some 0)] rfl (by kernel_rfl) (op_yes (reads := [(5, none)]) 2 15 0 false rfl rfl rfl (op_out 5 (v2) rfl (.inl rfl) rfl)) ?_
      refine LinL.step (s := (.val (.int .i64 (s.length : Nat)))) [(16, some 0), (15, some 1)] rfl (by kernel_rfl) (op_yes (reads := [(16, some 0)]) 2 15 1 false rfl rfl rfl (op_runs rfl fun σ w' hx hg => ⟨_, runs_lenb (ρ := σ.eval) (w := w') (.tmp 16) rfl hg.1 (b2.ext hx), rfl⟩)) ?_
      refine LinL.step (s := (.val (.bool true))) [(17, some 0), (15, some 2)] rfl (by kernel_rfl) (op_yes (reads := [(17, some 0)]) 2 15 2 false rfl rfl rfl (op_runs rfl fun σ w' hx hg => ⟨(.bool true), by have h17 : σ.tmps.getD 17 undef = .int .i64 (s.length : Nat) := hg.1; unfold Runs execOp; simp [Act.eval, h17, go_sem, t1], rfl⟩)) ?_
      refine LinL.step (s := (.val (.bool true))) [(15, some 3), (18, some 0)] rfl (by kernel_rfl) (op_runs rfl fun σ w' hx hg => ⟨_, runs_pick_f (ρ := σ.eval) (w := w') (.tmp 15) (.const (.bool true)) (.tmp 18) rfl hg.1 hg.2.1, rfl⟩) ?_
      refine LinL.step (s := (.val (.bool true))) [(19, some 0)] rfl (by kernel_rfl) (op_copy 19 0 (.val (.bool true)) rfl (.inl rfl) rfl) ?_
      refine LinL.step (s := .val undef) [(4, none), (20, some 0)] rfl (by kernel_rfl) (op_no (reads := [(4, none)]) 7 20 0 false rfl rfl rfl) ?_
      refine LinL.step (s := .val undef) [(21, some 0), (20, some 1)] rfl (by kernel_rfl) (op_no (reads := [(21, some 0)]) 7 20 1 false rfl rfl rfl) ?_
      refine LinL.step (s := .val undef) [(22, some 0), (20, some 2)] rfl (by kernel_rfl) (op_no (reads := [(22, some 0)]) 7 20 2 false rfl rfl rfl) ?_
      refine LinL.step (s := .val undef) [(4, none), (20, some 3)] rfl (by kernel_rfl) (op_no (reads := [(4, none)]) 7 20 3 false rfl rfl rfl) ?_
      refine LinL.step (s := .val undef) [(24, some 0), (20, some 4)] rfl (by kernel_rfl) (op_no (reads := [(24, some 0)]) 7 20 4 false rfl rfl rfl) ?_
      refine LinL.step (s := .val undef) [(25, some 0), (20, some 5)] rfl (by kernel_rfl) (op_no (reads := [(25, some 0)]) 7 20 5 false rfl rfl rfl) ?_
      refine LinL.step (s := .val undef) [(23, some 3), (26, some 0), (20, some 6)] rfl (by kernel_rfl) (op_no (reads := [(23, some 3), (26, some 0)]) 7 20 6 false rfl rfl rfl) ?_
      refine LinL.step (s := .val undef) [(27, some 0), (20, some 7)] rfl (by kernel_rfl) (op_no (reads := [(27, some 0)]) 7 20 7 false rfl rfl rfl) ?_
      refine LinL.step (s := .val undef) [(28, some 0), (20, some 8)] rfl (by kernel_rfl) (op_no (reads := [(28, some 0)]) 7 20 8 false rfl rfl rfl) ?_
      refine LinL.step (s := (.val (.bool true))) [(20, some 9), (29, some 0)] rfl (by kernel_rfl) (op_runs rfl fun σ w' hx hg => ⟨_, runs_pick_t (ρ := σ.eval) (w := w') (.tmp 20) (.const (.bool true)) (.tmp 29) rfl hg.1 rfl, rfl⟩) ?_
      intro wN hxN
      simp only [Fin', List.reverse_cons, List.reverse_nil, List.nil_append, List.cons_append, List.drop_zero, List.take_succ_cons, List.take_zero]
      simp only [Act.put, List.setIfInBounds_toArray, List.set_cons_zero, List.set_cons_succ]
      replace f2 := f2.ext hxN; replace hX := hX.trans hxN; clear hxN
      go_wp2_with ((first
        | (refine w_sbuild Try.stTx [.int .i64 0, .int .i64 0] rfl rfl rfl (by intro p hp; simp at hp) ?_)
        | (refine w_astore Try.stTx (us := [.int .i64 0, .int .i64 0]) _ _ rfl rfl rfl rfl rfl f2 rfl rfl (TxD.one ⟨0, 0⟩) ?_; intro w8 hm8 f8; have hX8 := hm8.after hX (fun i e => e ▸ hg2))
        | fail) <;> (try simp only [Act.put, List.setIfInBounds_toArray, List.set_cons_zero, List.set_cons_succ]))
      exact bodyPost_ret (ret_two Try.stTx rfl rfl rfl f8 rfl) rfl (No.out _ w8 rfl hX8)
    subst hs
    by_cases hri : (⟨i, f⟩ : TxD).Right
    · have hfin := hide_ (rdTx_c4 hr hri)
      have hdec := hide_ (decide_eq_true hri)
      replace hr := hide_ hr
      clear hri No
      go_enter Try.func31, Try.ntmps31
      go_wp2_with ((first
        | (refine w_alloc Try.stTx rfl rfl ?_; intro g2 w1 hg2 hX f2)
        | (go_at_call 30; refine (refRNums_yes (m := 2) (by omega) hr.out hb hlen (hv.ext hX)).mono ?_; rintro e w2 ⟨v1, v2, rfl, i1, b2, hx2⟩; replace f2 := f2.ext hx2; replace hX := hX.trans hx2; clear hx2)
        | fail) <;> (try simp only [Act.put, List.setIfInBounds_toArray, List.set_cons_zero, List.set_cons_succ]))
      refine wp_region_phx (by kernel_rfl) ?_; intro wd hxd; replace f2 := f2.ext hxd; replace hX := hX.trans hxd; replace i1 := i1.ext hxd; replace b2 := b2.ext hxd
      refine Ph.rest 0 18 (by kernel_rfl) ?_
      refine LinL.step (s := (.val (.int .i64 0))) [(6, none)] rfl (by kernel_rfl) (op_out 6 (.int .i64 0) rfl (.inl rfl) rfl) ?_
      refine LinL.step (s := (.val (.bool false))) [(13, some 0)] rfl (by kernel_rfl) (op_runs rfl fun σ w' hx hg => ⟨(.bool false), by have h13 : σ.tmps.getD 13 undef = .int .i64 0 := hg.1; unfold Runs execOp; simp [Act.eval, h13, go_sem], rfl⟩) ?_
      refine LinL.step (s := (.val (.bool false))) [(14, some 0)] rfl (by kernel_rfl) (op_copy 14 0 (.val (.bool false)) rfl (.inl rfl) rfl) ?_
      refine LinL.step (s := (.val (v2))) [(5, none), (15, some 0)] rfl (by kernel_rfl) (op_yes (reads := [(5, none)]) 2 15 0 false rfl rfl rfl (op_out 5 (v2) rfl (.inl rfl) rfl)) ?_
      refine LinL.step (s := (.val (.int .i64 (([]).length : Nat)))) [(16, some 0), (15, some 1)] rfl (by kernel_rfl) (op_yes (reads := [(16, some 0)]) 2 15 1 false rfl rfl rfl (op_runs rfl fun σ w' hx hg => ⟨_, runs_lenb (ρ := σ.eval) (w := w') (.tmp 16) rfl hg.1 (b2.ext hx), rfl⟩)) ?_
      refine LinL.step (s := (.val (.bool false))) [(17, some 0), (15, some 2)] rfl (by kernel_rfl) (op_yes (reads := [(17, some 0)]) 2 15 2 false rfl rfl rfl (op_runs rfl fun σ w' hx hg => ⟨(.bool false), by have h17 : σ.tmps.getD 17 undef = .int .i64 (([]).length : Nat) := hg.1; unfold Runs execOp; simp [Act.eval, h17, go_sem], rfl⟩)) ?_
      refine LinL.step (s := (.val (.bool false))) [(15, some 3), (18, some 0)] rfl (by kernel_rfl) (op_runs rfl fun σ w' hx hg => ⟨_, runs_pick_f (ρ := σ.eval) (w := w') (.tmp 15) (.const (.bool true)) (.tmp 18) rfl hg.1 hg.2.1, rfl⟩) ?_
      refine LinL.step (s := (.val (.bool false))) [(19, some 0)] rfl (by kernel_rfl) (op_copy 19 0 (.val (.bool false)) rfl (.inl rfl) rfl) ?_
      refine LinL.step (s := (.val (v1))) [(4, none), (20, some 0)] rfl (by kernel_rfl) (op_yes (reads := [(4, none)]) 7 20 0 false rfl rfl rfl (op_out 4 (v1) rfl (.inl rfl) rfl)) ?_
      refine LinL.step (s := (Sp.ptr (.int .i64 (i)))) [(21, some 0), (20, some 1)] rfl (by kernel_rfl) (op_yes (reads := [(21, some 0)]) 7 20 1 false rfl rfl rfl (op_runs rfl fun σ w' hx hg => rptri (ρ := σ.eval) (w := w') (.tmp 21) (.const (.int .i64 0)) rfl hg.1 (i1.ext hx) 0 rfl (by simp) rfl)) ?_
      refine LinL.step (s := (.val (.int .i64 (i : Int)))) [(22, some 0), (20, some 2)] rfl (by kernel_rfl) (op_yes (reads := [(22, some 0)]) 7 20 2 false rfl rfl rfl (op_runs rfl fun σ w' hx hg => ⟨_, runs_load (ρ := σ.eval) (w := w') (.tmp 22) rfl Try.underlying3 rfl hg.1, rfl⟩)) ?_
      refine LinL.step (s := (.val (v1))) [(4, none), (20, some 3)] rfl (by kernel_rfl) (op_yes (reads := [(4, none)]) 7 20 3 false rfl rfl rfl (op_out 4 (v1) rfl (.inl rfl) rfl)) ?_
      refine LinL.step (s := (Sp.ptr (.int .i64 (f)))) [(24, some 0), (20, some 4)] rfl (by kernel_rfl) (op_yes (reads := [(24, some 0)]) 7 20 4 false rfl rfl rfl (op_runs rfl fun σ w' hx hg => rptri (ρ := σ.eval) (w := w') (.tmp 24) (.const (.int .i64 1)) rfl hg.1 (i1.ext hx) 1 rfl (by simp) rfl)) ?_
      refine LinL.step (s := (.val (.int .i64 (f : Int)))) [(25, some 0), (20, some 5)] rfl (by kernel_rfl) (op_yes (reads := [(25, some 0)]) 7 20 5 false rfl rfl rfl (op_runs rfl fun σ w' hx hg => ⟨_, runs_load (ρ := σ.eval) (w := w') (.tmp 25) rfl Try.underlying3 rfl hg.1, rfl⟩)) ?_
      refine LinL.step (s := (.val (.agg #[.int .i64 i, .int .i64 f]))) [(23, some 3), (26, some 0), (20, some 6)] rfl (by kernel_rfl) (op_yes (reads := [(23, some 3), (26, some 0)]) 7 20 6 false rfl rfl rfl (op_runs rfl fun σ w' hx hg => ⟨_, runs_sbuild (ρ := σ.eval) (w := w') Try.stTx [.int .i64 i, .int .i64 f] (ps := #[(0, .tmp 23), (1, .tmp 26)]) rfl (by have h23 : σ.tmps.getD 23 undef = .int .i64 (i : Int) := hg.1; have h26 : σ.tmps.getD 26 undef = .int .i64 (f : Int) := hg.2.1; simp only [List.map_cons, List.map_nil, Act.eval, h23, h26, List.foldl_cons, List.foldl_nil, List.set_cons_zero, List.set_cons_succ]) (by have h23 : σ.tmps.getD 23 undef = .int .i64 (i : Int) := hg.1; have h26 : σ.tmps.getD 26 undef = .int .i64 (f : Int) := hg.2.1; intro p hp; simp at hp; rcases hp with rfl | rfl; exact ⟨by decide, by show (σ.tmps.getD 23 undef).cells = #[σ.tmps.getD 23 undef]; rw [h23]; exact rfl⟩; exact ⟨by decide, by show (σ.tmps.getD 26 undef).cells = #[σ.tmps.getD 26 undef]; rw [h26]; exact rfl⟩), rfl⟩)) ?_
      refine LinL.step (s := (.val (.bool true))) [(27, some 0), (20, some 7)] rfl (by kernel_rfl) (op_yes (reads := [(27, some 0)]) 7 20 7 false rfl rfl rfl (op_calls 51 #[(.tmp 27)] #[43] (fun σ => #[.agg #[.int .i64 i, .int .i64 f]]) rfl rfl (fun _ _ => rfl) fun σ w' hx hg => ⟨by have h27 : σ.tmps.getD 27 undef = .agg #[.int .i64 i, .int .i64 f] := hg.1; simp only [List.map_toArray, List.map_cons, List.map_nil, Act.eval, h27], refRightR ⟨i, f⟩ hdec.out⟩)) ?_
      refine LinL.step (s := (.val (.bool false))) [(28, some 0), (20, some 8)] rfl (by kernel_rfl) (op_yes (reads := [(28, some 0)]) 7 20 8 false rfl rfl rfl (op_runs rfl fun σ w' hx hg => ⟨(.bool false), by have h28 : σ.tmps.getD 28 undef = .bool true := hg.1; unfold Runs execOp; simp [Act.eval, h28, go_sem], rfl⟩)) ?_
      refine LinL.step (s := (.val (.bool false))) [(20, some 9), (29, some 0)] rfl (by kernel_rfl) (op_runs rfl fun σ w' hx hg => ⟨_, runs_pick_f (ρ := σ.eval) (w := w') (.tmp 20) (.const (.bool true)) (.tmp 29) rfl hg.1 hg.2.1, rfl⟩) ?_
      intro wN hxN
      simp only [Fin', Sp.ptr, List.reverse_cons, List.reverse_nil, List.nil_append, List.cons_append, List.drop_zero, List.take_succ_cons, List.take_zero]
      intro q22 hq22 q25 hq25
      simp only [Act.put, List.setIfInBounds_toArray, List.set_cons_zero, List.set_cons_succ]
      replace f2 := f2.ext hxN; replace hX := hX.trans hxN; replace i1 := i1.ext hxN; clear hxN
      go_wp2
      refine wp_region_phx (by kernel_rfl) ?_; intro wd hxd; replace f2 := f2.ext hxd; replace hX := hX.trans hxd; replace i1 := i1.ext hxd
      refine Ph.gate 0 7 (by kernel_rfl) ?_
      refine LinL.step (s := (.val (v1))) [(4, none)] rfl (by kernel_rfl) (op_out 4 (v1) rfl (.inl rfl) rfl) ?_
      refine LinL.step (s := (Sp.ptr (.int .i64 (i)))) [(32, some 0)] rfl (by kernel_rfl) (op_runs rfl fun σ w' hx hg => rptri (ρ := σ.eval) (w := w') (.tmp 32) (.const (.int .i64 0)) rfl hg.1 (i1.ext hx) 0 rfl (by simp) rfl) ?_
      refine LinL.step (s := (.val (.int .i64 (i : Int)))) [(33, some 0)] rfl (by kernel_rfl) (op_runs rfl fun σ w' hx hg => ⟨_, runs_load (ρ := σ.eval) (w := w') (.tmp 33) rfl Try.underlying3 rfl hg.1, rfl⟩) ?_
      refine LinL.step (s := (.val (v1))) [(4, none)] rfl (by kernel_rfl) (op_out 4 (v1) rfl (.inl rfl) rfl) ?_
      refine LinL.step (s := (Sp.ptr (.int .i64 (f)))) [(35, some 0)] rfl (by kernel_rfl) (op_runs rfl fun σ w' hx hg => rptri (ρ := σ.eval) (w := w') (.tmp 35) (.const (.int .i64 1)) rfl hg.1 (i1.ext hx) 1 rfl (by simp) rfl) ?_
      refine LinL.step (s := (.val (.int .i64 (f : Int)))) [(36, some 0)] rfl (by kernel_rfl) (op_runs rfl fun σ w' hx hg => ⟨_, runs_load (ρ := σ.eval) (w := w') (.tmp 36) rfl Try.underlying3 rfl hg.1, rfl⟩) ?_
      refine LinL.step (s := (.val (.agg #[.int .i64 i, .int .i64 f]))) [(34, some 3), (37, some 0)] rfl (by kernel_rfl) (op_runs rfl fun σ w' hx hg => ⟨_, runs_sbuild (ρ := σ.eval) (w := w') Try.stTx [.int .i64 i, .int .i64 f] (ps := #[(0, .tmp 34), (1, .tmp 37)]) rfl (by have h34 : σ.tmps.getD 34 undef = .int .i64 (i : Int) := hg.1; have h37 : σ.tmps.getD 37 undef = .int .i64 (f : Int) := hg.2.1; simp only [List.map_cons, List.map_nil, Act.eval, h34, h37, List.foldl_cons, List.foldl_nil, List.set_cons_zero, List.set_cons_succ]) (by have h34 : σ.tmps.getD 34 undef = .int .i64 (i : Int) := hg.1; have h37 : σ.tmps.getD 37 undef = .int .i64 (f : Int) := hg.2.1; intro p hp; simp at hp; rcases hp with rfl | rfl; exact ⟨by decide, by show (σ.tmps.getD 34 undef).cells = #[σ.tmps.getD 34 undef]; rw [h34]; exact rfl⟩; exact ⟨by decide, by show (σ.tmps.getD 37 undef).cells = #[σ.tmps.getD 37 undef]; rw [h37]; exact rfl⟩), rfl⟩) ?_
      intro wN hxN
      simp only [Fin', Sp.ptr, List.reverse_cons, List.reverse_nil, List.nil_append, List.cons_append, List.drop_zero, List.take_succ_cons, List.take_zero]
      intro q33 hq33 q36 hq36
      simp only [Act.put, List.setIfInBounds_toArray, List.set_cons_zero, List.set_cons_succ]
      replace f2 := f2.ext hxN; replace hX := hX.trans hxN
      refine wpOp_of_list rfl ?_
      refine w_astore Try.stTx (us := [.int .i64 i, .int .i64 f]) _ _ rfl rfl rfl rfl rfl f2 rfl rfl (TxD.one ⟨i, f⟩) ?_; intro w8 hm8 f8; have hX8 := hm8.after hX (fun i e => e ▸ hg2)
      show Ph Try.prog _ _ 8 _ _
      refine Ph.rest 8 1 (by kernel_rfl) ?_
      refine LinL.step (s := (.val (.int .i64 0))) [] rfl (by kernel_rfl) (op_const (.int .i64 0) rfl (.inr rfl)) ?_
      intro wN hxN
      simp only [Fin', List.reverse_cons, List.reverse_nil, List.nil_append, List.drop_zero, List.drop_succ_cons, List.take_succ_cons, List.take_zero]
      simp only [Act.put, List.setIfInBounds_toArray, List.set_cons_zero, List.set_cons_succ]
      replace f8 := f8.ext hxN; replace hX8 := hX8.trans hxN
      go_wp2
      exact bodyPost_ret (ret_two Try.stTx rfl rfl rfl f8 rfl) rfl (Keep.intro ⟨by rw [hfin.out]; rfl, hX8⟩)
    · replace No := No (rdTx_c3 hr hri)
      have hdec := hide_ (decide_eq_false hri)
      replace hr := hide_ hr
      clear hri
      go_enter Try.func31, Try.ntmps31
      go_wp2_with ((first
        | (refine w_alloc Try.stTx rfl rfl ?_; intro g2 w1 hg2 hX f2)
        | (go_at_call 30; refine (refRNums_yes (m := 2) (by omega) hr.out hb hlen (hv.ext hX)).mono ?_; rintro e w2 ⟨v1, v2, rfl, i1, b2, hx2⟩; replace f2 := f2.ext hx2; replace hX := hX.trans hx2; clear hx2)
        | fail) <;> (try simp only [Act.put, List.setIfInBounds_toArray, List.set_cons_zero, List.set_cons_succ]))
      refine wp_region_phx (by kernel_rfl) ?_; intro wd hxd; replace f2 := f2.ext hxd; replace hX := hX.trans hxd; replace i1 := i1.ext hxd; replace b2 := b2.ext hxd
      refine Ph.rest 0 18 (by kernel_rfl) ?_
      refine LinL.step (s := (.val (.int .i64 0))) [(6, none)] rfl (by kernel_rfl) (op_out 6 (.int .i64 0) rfl (.inl rfl) rfl) ?_
      refine LinL.step (s := (.val (.bool false))) [(13, some 0)] rfl (by kernel_rfl) (op_runs rfl fun σ w' hx hg => ⟨(.bool false), by have h13 : σ.tmps.getD 13 undef = .int .i64 0 := hg.1; unfold Runs execOp; simp [Act.eval, h13, go_sem], rfl⟩) ?_
      refine LinL.step (s := (.val (.bool false))) [(14, some 0)] rfl (by kernel_rfl) (op_copy 14 0 (.val (.bool false)) rfl (.inl rfl) rfl) ?_
      refine LinL.step (s := (.val (v2))) [(5, none), (15, some 0)] rfl (by kernel_rfl) (op_yes (reads := [(5, none)]) 2 15 0 false rfl rfl rfl (op_out 5 (v2) rfl (.inl rfl) rfl)) ?_
      refine LinL.step (s := (.val (.int .i64 (([]).length : Nat)))) [(16, some 0), (15, some 1)] rfl (by kernel_rfl) (op_yes (reads := [(16, some 0)]) 2 15 1 false rfl rfl rfl (op_runs rfl fun σ w' hx hg => ⟨_, runs_lenb (ρ := σ.eval) (w := w') (.tmp 16) rfl hg.1 (b2.ext hx), rfl⟩)) ?_
      refine LinL.step (s := (.val (.bool false))) [(17, some 0), (15, some 2)] rfl (by kernel_rfl) (op_yes (reads := [(17, some 0)]) 2 15 2 false rfl rfl rfl (op_runs rfl fun σ w' hx hg => ⟨(.bool false), by have h17 : σ.tmps.getD 17 undef = .int .i64 (([]).length : Nat) := hg.1; unfold Runs execOp; simp [Act.eval, h17, go_sem], rfl⟩)) ?_
      refine LinL.step (s := (.val (.bool false))) [(15, some 3), (18, some 0)] rfl (by kernel_rfl) (op_runs rfl fun σ w' hx hg => ⟨_, runs_pick_f (ρ := σ.eval) (w := w') (.tmp 15) (.const (.bool true)) (.tmp 18) rfl hg.1 hg.2.1, rfl⟩) ?_
      refine LinL.step (s := (.val (.bool false))) [(19, some 0)] rfl (by kernel_rfl) (op_copy 19 0 (.val (.bool false)) rfl (.inl rfl) rfl) ?_
      refine LinL.step (s := (.val (v1))) [(4, none), (20, some 0)] rfl (by kernel_rfl) (op_yes (reads := [(4, none)]) 7 20 0 false rfl rfl rfl (op_out 4 (v1) rfl (.inl rfl) rfl)) ?_
      refine LinL.step (s := (Sp.ptr (.int .i64 (i)))) [(21, some 0), (20, some 1)] rfl (by kernel_rfl) (op_yes (reads := [(21, some 0)]) 7 20 1 false rfl rfl rfl (op_runs rfl fun σ w' hx hg => rptri (ρ := σ.eval) (w := w') (.tmp 21) (.const (.int .i64 0)) rfl hg.1 (i1.ext hx) 0 rfl (by simp) rfl)) ?_
      refine LinL.step (s := (.val (.int .i64 (i : Int)))) [(22, some 0), (20, some 2)] rfl (by kernel_rfl) (op_yes (reads := [(22, some 0)]) 7 20 2 false rfl rfl rfl (op_runs rfl fun σ w' hx hg => ⟨_, runs_load (ρ := σ.eval) (w := w') (.tmp 22) rfl Try.underlying3 rfl hg.1, rfl⟩)) ?_
      refine LinL.step (s := (.val (v1))) [(4, none), (20, some 3)] rfl (by kernel_rfl) (op_yes (reads := [(4, none)]) 7 20 3 false rfl rfl rfl (op_out 4 (v1) rfl (.inl rfl) rfl)) ?_
      refine LinL.step (s := (Sp.ptr (.int .i64 (f)))) [(24, some 0), (20, some 4)] rfl (by kernel_rfl) (op_yes (reads := [(24, some 0)]) 7 20 4 false rfl rfl rfl (op_runs rfl fun σ w' hx hg => rptri (ρ := σ.eval) (w := w') (.tmp 24) (.const (.int .i64 1)) rfl hg.1 (i1.ext hx) 1 rfl (by simp) rfl)) ?_
      refine LinL.step (s := (.val (.int .i64 (f : Int)))) [(25, some 0), (20, some 5)] rfl (by kernel_rfl) (op_yes (reads := [(25, some 0)]) 7 20 5 false rfl rfl rfl (op_runs rfl fun σ w' hx hg => ⟨_, runs_load (ρ := σ.eval) (w := w') (.tmp 25) rfl Try.underlying3 rfl hg.1, rfl⟩)) ?_
      refine LinL.step (s := (.val (.agg #[.int .i64 i, .int .i64 f]))) [(23, some 3), (26, some 0), (20, some 6)] rfl (by kernel_rfl) (op_yes (reads := [(23, some 3), (26, some 0)]) 7 20 6 false rfl rfl rfl (op_runs rfl fun σ w' hx hg => ⟨_, runs_sbuild (ρ := σ.eval) (w := w') Try.stTx [.int .i64 i, .int .i64 f] (ps := #[(0, .tmp 23), (1, .tmp 26)]) rfl (by have h23 : σ.tmps.getD 23 undef = .int .i64 (i : Int) := hg.1; have h26 : σ.tmps.getD 26 undef = .int .i64 (f : Int) := hg.2.1; simp only [List.map_cons, List.map_nil, Act.eval, h23, h26, List.foldl_cons, List.foldl_nil, List.set_cons_zero, List.set_cons_succ]) (by have h23 : σ.tmps.getD 23 undef = .int .i64 (i : Int) := hg.1; have h26 : σ.tmps.getD 26 undef = .int .i64 (f : Int) := hg.2.1; intro p hp; simp at hp; rcases hp with rfl | rfl; exact ⟨by decide, by show (σ.tmps.getD 23 undef).cells = #[σ.tmps.getD 23 undef]; rw [h23]; exact rfl⟩; exact ⟨by decide, by show (σ.tmps.getD 26 undef).cells = #[σ.tmps.getD 26 undef]; rw [h26]; exact rfl⟩), rfl⟩)) ?_
      refine LinL.step (s := (.val (.bool false))) [(27, some 0), (20, some 7)] rfl (by kernel_rfl) (op_yes (reads := [(27, some 0)]) 7 20 7 false rfl rfl rfl (op_calls 51 #[(.tmp 27)] #[43] (fun σ => #[.agg #[.int .i64 i, .int .i64 f]]) rfl rfl (fun _ _ => rfl) fun σ w' hx hg => ⟨by have h27 : σ.tmps.getD 27 undef = .agg #[.int .i64 i, .int .i64 f] := hg.1; simp only [List.map_toArray, List.map_cons, List.map_nil, Act.eval, h27], refRightR ⟨i, f⟩ hdec.out⟩)) ?_
      refine LinL.step (s := (.val (.bool true))) [(28, some 0), (20, some 8)] rfl (by kernel_rfl) (op_yes (reads := [(28, some 0)]) 7 20 8 false rfl rfl rfl (op_runs rfl fun σ w' hx hg => ⟨(.bool true), by have h28 : σ.tmps.getD 28 undef = .bool false := hg.1; unfold Runs execOp; simp [Act.eval, h28, go_sem], rfl⟩)) ?_
      refine LinL.step (s := (.val (.bool true))) [(20, some 9), (29, some 0)] rfl (by kernel_rfl) (op_runs rfl fun σ w' hx hg => ⟨_, runs_pick_f (ρ := σ.eval) (w := w') (.tmp 20) (.const (.bool true)) (.tmp 29) rfl hg.1 hg.2.1, rfl⟩) ?_
      intro wN hxN
      simp only [Fin', Sp.ptr, List.reverse_cons, List.reverse_nil, List.nil_append, List.cons_append, List.drop_zero, List.take_succ_cons, List.take_zero]
      intro q22 hq22 q25 hq25
      simp only [Act.put, List.setIfInBounds_toArray, List.set_cons_zero, List.set_cons_succ]
      replace f2 := f2.ext hxN; replace hX := hX.trans hxN; clear hxN
      go_wp2_with ((first
        | (refine w_sbuild Try.stTx [.int .i64 0, .int .i64 0] rfl rfl rfl (by intro p hp; simp at hp) ?_)
        | (refine w_astore Try.stTx (us := [.int .i64 0, .int .i64 0]) _ _ rfl rfl rfl rfl rfl f2 rfl rfl (TxD.one ⟨0, 0⟩) ?_; intro w8 hm8 f8; have hX8 := hm8.after hX (fun i e => e ▸ hg2))
        | fail) <;> (try simp only [Act.put, List.setIfInBounds_toArray, List.set_cons_zero, List.set_cons_succ]))
      exact bodyPost_ret (ret_two Try.stTx rfl rfl rfl f8 rfl) rfl (No.out _ w8 rfl hX8)

/-! ### The list of bytes: every length is tried -/
theorem isLs_rns {b : List Nat} {l : List TxD} (h : IsLs b l) : rns (1 + 2 * l.length) b = some (lsNums l, []) := by
  rw [h.2]; exact rns_ls h.1
theorem ls_next {b : List Nat} {n : Nat} (hn : ∀ l, IsLs b l → n ≤ l.length) (h : ∀ l, IsLs b l → l.length ≠ n) : ∀ l, IsLs b l → n + 1 ≤ l.length := fun l hl => by
  have := hn l hl
  have := h l hl
  omega
theorem rdLs_none {b : List Nat} (hb : ∀ x ∈ b, x < 256) (h : ∀ l, ¬ IsLs b l) : rdLs b = none := by
  cases hr : rdLs b with
  | none => rfl
  | some l => exact absurd ((rdLs_iff hb l).1 hr) (h l)
/-- What is read of all of b, as a list of transactions, is the list, if one of this length has these bytes. -/
theorem ls_pairs {b : List Nat} {n : Nat} {xs : List Int} (hr : rns (1 + 2 * n) b = some (xs, [])) {l : List TxD} (h : IsLs b l) (hl : l.length = n) : pairs xs.tail = l := by
  have := isLs_rns h
  rw [hl, hr] at this
  cases this
  exact pairs_txNums l

set_option maxRecDepth 100000 in
set_option maxHeartbeats 3200000 in
theorem refTReadList_new {W : World} {v : Value} {b : List Nat} (hb : ∀ x ∈ b, x < 256) (hlen : b.length ≤ 140737488355328) (hv : Byt W v b) :
    Calls Try.prog 52 #[v] W fun e w' => ∃ v', e = .returned (.tuple #[v', .int .i64 (oE (rdLs b) : Nat)]) ∧ Ext W w' ∧ OwnT W.heap.size w' v' ((rdLs b).getD []) := by
  refine calls_keep ?_
  go_enter Try.func52, Try.ntmps52
  go_wp2
  go_loopw [4] (fun i wr => ∃ n : Nat, i = .int .i64 n ∧ n ≤ 4 ∧ Hid (∀ l, IsLs b l → n ≤ l.length) ∧ Ext W wr) (fun i _ => 4 - (intOf i).toNat)
  case atStart => exact ⟨0, rfl, Nat.zero_le _, hide_ (fun l _ => Nat.zero_le _), Ext.refl _⟩
  case round =>
    obtain ⟨n, rfl, hn4, hno, hX⟩ := hrel
    by_cases hge : 4 ≤ n
    · have t1 : decide ((n : Int) ≤ (3 : Int)) = false := by simp; omega
      have hnone := hide_ (rdLs_none hb fun l hl => by have := hno.out l hl; have := hl.1.len; omega)
      clear hge hno
      go_wp2
      go_ret2
      exact Keep.intro ⟨.slice none 0 0, by rw [hnone.out]; rfl, hX, by rw [hnone.out]; exact OwnT.nil _ _⟩
    have hn3 : n ≤ 3 := by omega
    have t1 : decide ((n : Int) ≤ (3 : Int)) = true := by simp; omega
    have c1 : IntKind.i64.wrap (2 * (n : Int)) = ((2 * n : Nat) : Int) := by rw [IntWalk.i64_in _ (by omega)]; omega
    have c2 : IntKind.i64.wrap (1 + ((2 * n : Nat) : Int)) = ((1 + 2 * n : Nat) : Int) := by rw [IntWalk.i64_in _ (by omega)]; omega
    have hm64 : 1 + 2 * n ≤ 64 := by omega
    clear hge
    cases hr : rns (1 + 2 * n) b with
    | none =>
      have hno2 := hide_ (ls_next hno.out fun l hl hln => by have := isLs_rns hl; rw [hln, hr] at this; cases this)
      replace hr := hide_ hr
      clear hno
      go_wp2_with (first
        | (go_at_call 30; refine (refRNums_no hm64 hr.out hb hlen (hv.ext hX)).mono ?_; rintro e w2 ⟨v1, v2, rfl, hx2⟩; replace hX := hX.trans hx2; clear hx2)
        | fail)
      go_roundw
      case rel => exact ⟨n + 1, by go_num, by omega, hno2, hX⟩
      case measure => simp [intOf]; omega
    | some p =>
      obtain ⟨xs, s⟩ := p
      by_cases hs : s = []
      rotate_left
      · have t2 : decide (0 < s.length) = true := by
          have : 0 < s.length := List.length_pos_iff.2 hs
          exact decide_eq_true this
        have hno2 := hide_ (ls_next hno.out fun l hl hln => by have := isLs_rns hl; rw [hln, hr] at this; cases this; exact hs rfl)
        replace hr := hide_ hr
        clear hno hs
        go_wp2_with ((first
          | (go_at_call 30; refine (refRNums_yes hm64 hr.out hb hlen (hv.ext hX)).mono ?_; rintro e w2 ⟨v1, v2, rfl, i1, b2, hx2⟩; replace hX := hX.trans hx2; clear hx2)
          | ((try refine w_yes _ _ _ rfl rfl rfl ?_); refine b_len _ rfl rfl (v := v2) rfl b2 ?_)
          | fail) <;> (try simp only [Act.put, List.setIfInBounds_toArray, List.set_cons_zero, List.set_cons_succ]))
        go_roundw
        case rel => exact ⟨n + 1, by go_num, by omega, hno2, hX⟩
        case measure => simp [intOf]; omega
      subst hs
      have hz := hide_ (show (([] : List Nat).length : Int) = 0 from rfl)
      obtain ⟨hbx, hxl, hxi⟩ := rns_was (1 + 2 * n) b xs [] hb hr
      obtain ⟨x, ys, rfl⟩ : ∃ x ys, xs = x :: ys := by
        cases xs with
        | nil => simp at hxl; omega
        | cons x ys => exact ⟨x, ys, rfl⟩
      have hyl : ys.length = 2 * n := by simp at hxl; omega
      obtain ⟨htx, hpl⟩ := txNums_pairs n ys hyl
      have hpg := hide_ (fun k d => pairs_get n ys k d hyl)
      have hyi := hide_ (show ∀ y ∈ ys, -1 ≤ y ∧ y ≤ 4611686018427387904 from fun y hy => hxi y (List.mem_cons_of_mem _ hy))
      have hlp := hide_ (show ∀ l, IsLs b l → l.length = n → pairs ys = l from fun l h hl => ls_pairs hr h hl)
      replace hr := hide_ hr
      have hbx' := hide_ hbx
      have hxl' := hide_ hxl
      clear hbx hxl hxi hyl htx
      go_wp2_with ((first
        | (go_at_call 30; refine (refRNums_yes hm64 hr.out hb hlen (hv.ext hX)).mono ?_; rintro e w2 ⟨v1, v2, rfl, i1, b2, hx2⟩; replace hX := hX.trans hx2; clear hx2)
        | ((try refine w_yes _ _ _ rfl rfl rfl ?_); refine b_len _ rfl rfl (v := v2) rfl b2 ?_; rw [hz.out])
        | (refine w_nnew Try.elTxN [] rfl rfl rfl (by simp) rfl (by omega) ?_; intro v0 w3 B hB1 hB2 hx3 hn0; have hO : OwnT w2.heap.size w3 v0 [] := OwnT.of (l := []) hn0 (by simp) (fun k h => by omega); clear hn0 hB1 hB2 b2)
        | fail) <;> (try simp only [Act.put, List.setIfInBounds_toArray, List.set_cons_zero, List.set_cons_succ]))
      have hX2 := hX
      clear hX
      go_loopw [8, 9] (fun vo i wr => ∃ k : Nat, i = .int .i64 k ∧ k ≤ n ∧ OwnT w2.heap.size wr vo ((pairs ys).take k) ∧ Ext w2 wr) (fun _ i _ => n - (intOf i).toNat)
      case atStart => exact ⟨0, rfl, Nat.zero_le _, hO, hx3⟩
      case round =>
        clear hO hx3
        obtain ⟨k, rfl, hk, hO, hX⟩ := hrel
        by_cases hkn : k < n
        · have t3 : decide (k < n) = true := by simpa using hkn
          obtain ⟨d, hd⟩ : ∃ d, (pairs ys)[k]? = some d := ⟨_, List.getElem?_eq_getElem (by omega)⟩
          obtain ⟨hx0, hx1'⟩ := hpg.out k d hd
          have e0 := hide_ (show ∃ h : 1 + 2 * k < (x :: ys).length, (x :: ys)[1 + 2 * k] = d.id from List.getElem?_eq_some_iff.1 (by rw [Nat.add_comm, List.getElem?_cons_succ]; exact hx0))
          have e1 := hide_ (show ∃ h : 2 + 2 * k < (x :: ys).length, (x :: ys)[2 + 2 * k] = d.fee from List.getElem?_eq_some_iff.1 (by rw [show 2 + 2 * k = 2 * k + 1 + 1 from by omega, List.getElem?_cons_succ]; exact hx1'))
          have hdraw := hide_ (show d.Raw from by
            have h0 := hyi.out d.id (List.mem_of_getElem? hx0)
            have h1 := hyi.out d.fee (List.mem_of_getElem? hx1')
            exact ⟨by omega, by omega⟩)
          have htk := hide_ (show (pairs ys).take k ++ [d] = (pairs ys).take (k + 1) from by rw [List.take_add_one, hd]; rfl)
          have hbig := hide_ (show (((pairs ys).take k |>.map TxD.row).length + [d.row].length) * 16 ≤ 140737488355328 from by simp; omega)
          clear hx0 hx1' hd
          go_wp2
          refine wp_region_phx (by kernel_rfl) ?_; intro wd hxd; have j1 := (i1.ext hX).ext hxd; replace hO := hO.ext hxd; replace hX := hX.trans hxd
          refine Ph.gate 0 15 (by kernel_rfl) ?_
          refine LinL.step (s := (.val (u8))) [(8, none)] rfl (by kernel_rfl) (op_out 8 (u8) rfl (.inl rfl) rfl) ?_
          refine LinL.step (s := (.val (v1))) [(5, none)] rfl (by kernel_rfl) (op_out 5 (v1) rfl (.inl rfl) rfl) ?_
          refine LinL.step (s := (.val (.int .i64 (k : Nat)))) [(9, none)] rfl (by kernel_rfl) (op_out 9 (.int .i64 (k : Nat)) rfl (.inl rfl) rfl) ?_
          refine LinL.step (s := (.val (.int .i64 ((2 * k : Nat) : Int)))) [(40, some 0)] rfl (by kernel_rfl) (op_runs rfl fun σ w' hx hg => ⟨_, runs_mul (ρ := σ.eval) (w := w') (.const (.int .i64 2)) (.tmp 40) (((2 * k : Nat) : Int)) (by omega) (by omega) rfl rfl hg.1, rfl⟩) ?_
          refine LinL.step (s := (.val (.int .i64 ((1 + 2 * k : Nat) : Int)))) [(41, some 0)] rfl (by kernel_rfl) (op_runs rfl fun σ w' hx hg => ⟨_, runs_add (ρ := σ.eval) (w := w') (.const (.int .i64 1)) (.tmp 41) (((1 + 2 * k : Nat) : Int)) (by omega) (by omega) rfl rfl hg.1, rfl⟩) ?_
          refine LinL.step (s := (Sp.ptr (.int .i64 (d.id)))) [(39, some 3), (42, some 0)] rfl (by kernel_rfl) (op_runs rfl fun σ w' hx hg => rptri (ρ := σ.eval) (w := w') (.tmp 39) (.tmp 42) rfl hg.1 (j1.ext hx) ((1 + 2 * k)) hg.2.1 e0.out.choose e0.out.choose_spec) ?_
          refine LinL.step (s := (.val (.int .i64 (d.id : Int)))) [(43, some 0)] rfl (by kernel_rfl) (op_runs rfl fun σ w' hx hg => ⟨_, runs_load (ρ := σ.eval) (w := w') (.tmp 43) rfl Try.underlying3 rfl hg.1, rfl⟩) ?_
          refine LinL.step (s := (.val (v1))) [(5, none)] rfl (by kernel_rfl) (op_out 5 (v1) rfl (.inl rfl) rfl) ?_
          refine LinL.step (s := (.val (.int .i64 (k : Nat)))) [(9, none)] rfl (by kernel_rfl) (op_out 9 (.int .i64 (k : Nat)) rfl (.inl rfl) rfl) ?_
          refine LinL.step (s := (.val (.int .i64 ((2 * k : Nat) : Int)))) [(46, some 0)] rfl (by kernel_rfl) (op_runs rfl fun σ w' hx hg => ⟨_, runs_mul (ρ := σ.eval) (w := w') (.const (.int .i64 2)) (.tmp 46) (((2 * k : Nat) : Int)) (by omega) (by omega) rfl rfl hg.1, rfl⟩) ?_
          refine LinL.step (s := (.val (.int .i64 ((2 + 2 * k : Nat) : Int)))) [(47, some 0)] rfl (by kernel_rfl) (op_runs rfl fun σ w' hx hg => ⟨_, runs_add (ρ := σ.eval) (w := w') (.const (.int .i64 2)) (.tmp 47) (((2 + 2 * k : Nat) : Int)) (by omega) (by omega) rfl rfl hg.1, rfl⟩) ?_
          refine LinL.step (s := (Sp.ptr (.int .i64 (d.fee)))) [(45, some 3), (48, some 0)] rfl (by kernel_rfl) (op_runs rfl fun σ w' hx hg => rptri (ρ := σ.eval) (w := w') (.tmp 45) (.tmp 48) rfl hg.1 (j1.ext hx) ((2 + 2 * k)) hg.2.1 e1.out.choose e1.out.choose_spec) ?_
          refine LinL.step (s := (.val (.int .i64 (d.fee : Int)))) [(49, some 0)] rfl (by kernel_rfl) (op_runs rfl fun σ w' hx hg => ⟨_, runs_load (ρ := σ.eval) (w := w') (.tmp 49) rfl Try.underlying3 rfl hg.1, rfl⟩) ?_
          refine LinL.step (s := (.val (.agg #[.int .i64 d.id, .int .i64 d.fee]))) [(44, some 6), (50, some 0)] rfl (by kernel_rfl) (op_runs rfl fun σ w' hx hg => ⟨_, runs_sbuild (ρ := σ.eval) (w := w') Try.stTx [.int .i64 d.id, .int .i64 d.fee] (ps := #[(0, .tmp 44), (1, .tmp 50)]) rfl (by have h44 : σ.tmps.getD 44 undef = .int .i64 (d.id : Int) := hg.1; have h50 : σ.tmps.getD 50 undef = .int .i64 (d.fee : Int) := hg.2.1; simp only [List.map_cons, List.map_nil, Act.eval, h44, h50, List.foldl_cons, List.foldl_nil, List.set_cons_zero, List.set_cons_succ]) (by have h44 : σ.tmps.getD 44 undef = .int .i64 (d.id : Int) := hg.1; have h50 : σ.tmps.getD 50 undef = .int .i64 (d.fee : Int) := hg.2.1; intro p hp; simp at hp; rcases hp with rfl | rfl; exact ⟨by decide, by show (σ.tmps.getD 44 undef).cells = #[σ.tmps.getD 44 undef]; rw [h44]; exact rfl⟩; exact ⟨by decide, by show (σ.tmps.getD 50 undef).cells = #[σ.tmps.getD 50 undef]; rw [h50]; exact rfl⟩), rfl⟩) ?_
          refine LinL.step (s := (Sp.sls 2 [d.row])) [(51, some 0)] rfl (by kernel_rfl) (op_nbuild Try.elTxN [d.row] 1 #[(0, .tmp 51)] rfl rfl rfl (by omega) (by simp [TxD.row]) fun σ w' hx hg => by have h51 : σ.tmps.getD 51 undef = .agg #[.int .i64 d.id, .int .i64 d.fee] := hg.1; simp only [List.map_cons, List.map_nil, Act.eval, h51]; rfl) ?_
          intro wN hxN
          simp only [Fin', Sp.ptr, Sp.sls, List.reverse_cons, List.reverse_nil, List.nil_append, List.cons_append, List.drop_zero, List.take_succ_cons, List.take_zero]
          intro q43 hq43 q49 hq49 q52 hq52
          simp only [Act.put, List.setIfInBounds_toArray, List.set_cons_zero, List.set_cons_succ]
          replace hO := hO.ext hxN; replace hX := hX.trans hxN; clear hxN
          refine wpOp_of_list rfl ?_
          refine w_napp Try.elTxN _ _ rfl rfl rfl rfl hO.own hq52 (by simp) (by intro y hy; simp at hy; subst hy; exact d.one) hbig.out ?_; intro v9 w7 hm7 hn7
          have hO2 := hO.app hX.size hdraw.out hn7; replace hX := hm7.after hX hO.new; replace hO := hO2; rw [htk.out] at hO; clear hO2 hm7 hn7 j1
          show Ph Try.prog _ _ 16 _ _
          refine Ph.rest 16 1 (by kernel_rfl) ?_
          refine LinL.step (s := (.val (v9))) [(53, none)] rfl (by kernel_rfl) (op_out 53 (v9) rfl (.inr rfl) rfl) ?_
          intro wN hxN
          simp only [Fin', List.reverse_cons, List.reverse_nil, List.nil_append, List.drop_zero, List.drop_succ_cons, List.take_succ_cons, List.take_zero]
          simp only [Act.put, List.setIfInBounds_toArray]
          replace hO := hO.ext hxN; replace hX := hX.trans hxN; clear hxN hxd
          go_wp2
          go_roundw
          case rel => exact ⟨k + 1, by go_num, by omega, hO, hX⟩
          case measure => simp [intOf]; omega
        · obtain rfl : k = n := by omega
          have t3 : decide (k < k) = false := by simp
          have he : (pairs ys).take k = pairs ys := List.take_of_length_le (by omega)
          rw [he] at hO
          clear he hkn
          by_cases hok : LsOk (pairs ys)
          rotate_left
          · have E1 := hide_ (show tlE (pairs ys) = 61 from if_neg hok)
            have E2 := hide_ (show tlB (pairs ys) = [] from if_neg hok)
            have hno2 := hide_ (ls_next hno.out fun l hl hln => hok (by rw [hlp.out l hl hln]; exact hl.1))
            clear hno hok
            go_wp2_with (first
              | (go_at_call 53; refine (refTList_any hO.recs).mono ?_; rintro e w5 ⟨v5, rfl, o5, hx5⟩; rw [E1.out]; rw [E2.out] at o5; have b5 := o5.byt; replace hO := hO.ext hx5; replace hX := hX.trans hx5; clear o5 hx5)
              | fail)
            go_roundw
            case rel => exact ⟨k + 1, by go_num, by omega, hno2, hX2.trans hX⟩
            case measure => simp [intOf]; omega
          have E1 := hide_ (show tlE (pairs ys) = 0 from if_pos hok)
          have E2 := hide_ (show tlB (pairs ys) = lsB (pairs ys) from if_pos hok)
          by_cases heq : lsB (pairs ys) = b
          · have hfin := hide_ ((rdLs_iff hb (pairs ys)).2 ⟨hok, heq.symm⟩)
            have hst : strN (lsB (pairs ys)) = strN b := by rw [heq]
            clear hno hok heq
            go_wp2_with ((first
              | (go_at_call 53; refine (refTList_any hO.recs).mono ?_; rintro e w5 ⟨v5, rfl, o5, hx5⟩; rw [E1.out]; rw [E2.out] at o5; have b5 := o5.byt; replace hO := hO.ext hx5; replace hX := hX.trans hx5; clear o5 hx5)
              | ((try refine w_yes _ _ _ rfl rfl rfl ?_); refine w_str _ rfl rfl (v := v5) rfl b5 ?_)
              | ((try refine w_yes _ _ _ rfl rfl rfl ?_); refine w_str _ rfl rfl (v := v) rfl (hv.ext (hX2.trans hX)) ?_)
              | fail) <;> (try simp only [Act.put, List.setIfInBounds_toArray, List.set_cons_zero, List.set_cons_succ]))
            go_ret2
            exact Keep.intro ⟨_, by rw [hfin.out]; rfl, hX2.trans hX, by rw [hfin.out]; exact hO.mono hX2.size⟩
          · have hst : ((strN (lsB (pairs ys))).toList == (strN b).toList) = false := by rw [beq_eq_false_iff_ne]; exact strN_ne' (nuL_lt (lsNums (pairs ys))) hb heq
            have hno2 := hide_ (ls_next hno.out fun l hl hln => heq (by rw [hlp.out l hl hln]; exact hl.2.symm))
            clear hno hok heq
            go_wp2_with ((first
              | (go_at_call 53; refine (refTList_any hO.recs).mono ?_; rintro e w5 ⟨v5, rfl, o5, hx5⟩; rw [E1.out]; rw [E2.out] at o5; have b5 := o5.byt; replace hO := hO.ext hx5; replace hX := hX.trans hx5; clear o5 hx5)
              | ((try refine w_yes _ _ _ rfl rfl rfl ?_); refine w_str _ rfl rfl (v := v5) rfl b5 ?_)
              | ((try refine w_yes _ _ _ rfl rfl rfl ?_); refine w_str _ rfl rfl (v := v) rfl (hv.ext (hX2.trans hX)) ?_)
              | fail) <;> (try simp only [Act.put, List.setIfInBounds_toArray, List.set_cons_zero, List.set_cons_succ]))
            go_roundw
            case rel => exact ⟨k + 1, by go_num, by omega, hno2, hX2.trans hX⟩
            case measure => simp [intOf]; omega
theorem refTReadList_any {W : World} {v : Value} {b : List Nat} (hb : ∀ x ∈ b, x < 256) (hlen : b.length ≤ 140737488355328) (hv : Byt W v b) :
    Calls Try.prog 52 #[v] W fun e w' => ∃ v', e = .returned (.tuple #[v', .int .i64 (oE (rdLs b) : Nat)]) ∧ Ext W w' ∧ Recs 2 TxR w' v' ((rdLs b).getD []) :=
  (refTReadList_new hb hlen hv).mono fun _ _ ⟨v', h1, h2, h3⟩ => ⟨v', h1, h2, h3.recs⟩
end Go.Proofs.Ytgbhbifdfcfamaa
