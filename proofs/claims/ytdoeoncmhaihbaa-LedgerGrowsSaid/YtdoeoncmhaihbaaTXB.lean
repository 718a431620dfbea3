/- The contract of tx.readAll: so many transactions of bytes, with nothing behind them. · The contracts of tx.Read, tx.List and tx.ReadList. · The contracts of the document's List and Same (transactions). · The contracts of the document's Read and ReadList (transactions). -/
import Derived.Test.YtdoeoncmhaihbaaTXA
import Derived.Test.YtdoeoncmhaihbaaFC
namespace Go.Proofs.Ytdoeoncmhaihbaa
set_option maxRecDepth 100000
open Go.RowKit

/-! ### So many transactions, as plain mathematics -/
def TxD.row (d : TxD) : List Value := [.int .i64 d.id, .int .i64 d.fee]
theorem TxD.Right.raw {t : TxD} (h : t.Right) : t.Raw := by
  obtain ⟨h1, h2, h3, h4⟩ := h
  exact ⟨by omega, by omega⟩
def pairs : List Int → List TxD
  | i :: f :: r => ⟨i, f⟩ :: pairs r
  | _ => []
theorem pairs_txNums : ∀ l : List TxD, pairs (txNums l) = l
  | [] => rfl
  | t :: l => by rw [txNums_cons, pairs, pairs_txNums l]
theorem txNums_pairs : ∀ (m : Nat) (xs : List Int), xs.length = 2 * m → txNums (pairs xs) = xs ∧ (pairs xs).length = m
  | 0, [], _ => ⟨rfl, rfl⟩
  | 0, _ :: _, h => by simp at h
  | m + 1, [], h => by simp at h
  | m + 1, [x], h => by simp at h; omega
  | m + 1, i :: f :: r, h => by
    obtain ⟨h1, h2⟩ := txNums_pairs m r (by simp at h; omega)
    rw [pairs, txNums_cons, h1, List.length_cons, h2]
    exact ⟨rfl, rfl⟩
theorem pairs_get : ∀ (m : Nat) (xs : List Int) (k : Nat) (d : TxD), xs.length = 2 * m → (pairs xs)[k]? = some d → xs[2 * k]? = some d.id ∧ xs[2 * k + 1]? = some d.fee
  | 0, [], k, d, _, h => by simp [pairs] at h
  | 0, _ :: _, _, _, h, _ => by simp at h
  | m + 1, [], _, _, h, _ => by simp at h
  | m + 1, [x], _, _, h, _ => by simp at h; omega
  | m + 1, i :: f :: r, 0, d, h, hd => by
    simp only [pairs, List.getElem?_cons_zero, Option.some.injEq] at hd
    subst hd
    exact ⟨rfl, rfl⟩
  | m + 1, i :: f :: r, k + 1, d, h, hd => by
    rw [pairs, List.getElem?_cons_succ] at hd
    obtain ⟨h1, h2⟩ := pairs_get m r k d (by simp at h; omega) hd
    exact ⟨by rw [show 2 * (k + 1) = 2 * k + 1 + 1 from by omega]; simpa using h1, by rw [show 2 * (k + 1) + 1 = 2 * k + 1 + 1 + 1 from by omega]; simpa using h2⟩
/-- Just so many transactions of all of b. -/
def rdAll (m : Nat) (b : List Nat) : Option (List TxD) := match rns (2 * m) b with
  | some (xs, []) => if ∀ t ∈ pairs xs, t.Right then some (pairs xs) else none
  | _ => none
theorem rdAll_c1 {m : Nat} {b : List Nat} (h : rns (2 * m) b = none) : rdAll m b = none := by unfold rdAll; rw [h]
theorem rdAll_c2 {m : Nat} {b s : List Nat} {xs : List Int} (h : rns (2 * m) b = some (xs, s)) (hs : s ≠ []) : rdAll m b = none := by
  unfold rdAll; rw [h]
  cases s with
  | nil => exact absurd rfl hs
  | cons x s => rfl
theorem rdAll_c3 {m : Nat} {b : List Nat} {xs : List Int} {d : TxD} (h : rns (2 * m) b = some (xs, [])) (hd : d ∈ pairs xs) (hr : ¬ d.Right) : rdAll m b = none := by
  unfold rdAll; rw [h]; exact if_neg fun hn => hr (hn d hd)
theorem rdAll_c4 {m : Nat} {b : List Nat} {xs : List Int} (h : rns (2 * m) b = some (xs, [])) (hr : ∀ t ∈ pairs xs, t.Right) : rdAll m b = some (pairs xs) := by
  unfold rdAll; rw [h]; exact if_pos hr
theorem rdAll_some {m : Nat} {b : List Nat} (hb : ∀ x ∈ b, x < 256) {l : List TxD} (h : rdAll m b = some l) : l.length = m ∧ (∀ t ∈ l, t.Right) ∧ b = nuL (txNums l) := by
  unfold rdAll at h
  split at h
  · rename_i xs hr
    split at h
    · rename_i hc
      cases h
      obtain ⟨h1, h2, _⟩ := rns_was (2 * m) b xs [] hb hr
      obtain ⟨h3, h4⟩ := txNums_pairs m xs h2
      exact ⟨h4, hc, by rw [h3, h1, List.append_nil]⟩
    · cases h
  · cases h
theorem txNums_rdb {l : List TxD} (h : ∀ t ∈ l, t.Right) : Rdb (txNums l) := by
  intro x hx
  obtain ⟨y, hy, hxy⟩ := List.mem_flatten.1 hx
  obtain ⟨t, ht, rfl⟩ := List.mem_map.1 hy
  exact (h t ht).rdb x hxy
theorem rdAll_yes {l : List TxD} (h : ∀ t ∈ l, t.Right) : rdAll l.length (nuL (txNums l)) = some l := by
  have e := rns_yes (txNums_rdb h) []
  rw [List.append_nil, txNums_len] at e
  have := rdAll_c4 e (by rw [pairs_txNums]; exact h)
  rw [pairs_txNums] at this; exact this

/-! ### Owned slices of transactions -/
theorem Try.elTxN : ElN Try.prog 57 56 2 16 (.agg #[.int .i64 0, .int .i64 0]) := ElN.of Try.underlying57 (by kernel_rfl) rfl (by omega) (by omega)
/-- An owned slice of transactions, whose block is new since lo. -/
structure OwnT (lo : Nat) (w : World) (v : Value) (l : List TxD) : Prop where
  own : RowN (fun k => v.ownBlock = some k) w 56 2 v (l.map TxD.row)
  raw : ∀ t ∈ l, t.Raw
  new : ∀ k, v.ownBlock = some k → lo ≤ k
section
variable {lo lo' : Nat} {w w' : World} {v v' : Value} {l : List TxD}
theorem OwnT.ext (h : OwnT lo w v l) (he : Ext w w') : OwnT lo w' v l := ⟨h.own.ext he, h.raw, h.new⟩
theorem OwnT.mono (h : OwnT lo w v l) (hl : lo' ≤ lo) : OwnT lo' w v l := ⟨h.own, h.raw, fun k hk => Nat.le_trans hl (h.new k hk)⟩
theorem OwnT.mod {G : Nat → Prop} (h : OwnT lo w v l) (hm : Mod G w w') (hG : ∀ k, v.ownBlock = some k → ¬ G k) : OwnT lo w' v l := ⟨h.own.mod hm hG, h.raw, h.new⟩
theorem OwnT.lt (h : OwnT lo w v l) {k : Nat} (hk : v.ownBlock = some k) : k < w.heap.size := h.own.lt hk
theorem rows_recs {rows : List (List Value)} (h : rows = l.map TxD.row) (hr : ∀ t ∈ l, t.Raw) : ∀ (k : Nat) (row : List Value) (d : TxD), rows[k]? = some row → l[k]? = some d → TxR w row d := fun k row d hk hd => by
  subst h
  rw [List.getElem?_map, hd] at hk
  cases hk
  exact ⟨rfl, hr d (List.mem_of_getElem? hd)⟩
theorem OwnT.recs (h : OwnT lo w v l) : Recs 2 TxR w v l := h.own.recs (by simp) (rows_recs rfl h.raw)
theorem OwnT.nil (lo : Nat) (w : World) : OwnT lo w (.slice none 0 0) [] := ⟨RowN.nil _ _ _, fun _ h => by simp at h, fun _ hk => nomatch hk⟩
theorem OwnT.of {F : Nat → Prop} (h : RowN F w 56 2 v (l.map TxD.row)) (hr : ∀ t ∈ l, t.Raw) (hF : ∀ k, F k → lo ≤ k) : OwnT lo w v l := ⟨⟨h.own, h.each, fun _ h => h⟩, hr, fun k hk => hF k (h.inF k hk)⟩
theorem OwnT.app {d : TxD} (h : OwnT lo w v l) (hlo : lo ≤ w.heap.size) (hd : d.Raw) (hn : RowN (grow (fun k => v.ownBlock = some k) w w') w' 56 2 v' (l.map TxD.row ++ [d.row])) : OwnT lo w' v' (l ++ [d]) := by
  refine ⟨⟨?_, ?_, fun _ h => h⟩, fun t ht => ?_, fun k hk => ?_⟩
  · rw [List.map_append]; exact hn.own
  · rw [List.map_append]; exact hn.each
  · rcases List.mem_append.1 ht with ht | ht
    · exact h.raw t ht
    · rw [List.mem_singleton] at ht; subst ht; exact hd
  · rcases hn.inF k hk with h1 | h1
    · exact h.new k h1
    · omega
end

section
variable {w : World} {v : Value} {b s : List Nat} {xs : List Int} {m : Nat}
theorem rnO_of (hm : m ≤ 64) (b : List Nat) : rnO (m : Int) b = rns m b := by rw [rnO, if_neg (by omega)]; rfl
end

end Go.Proofs.Ytdoeoncmhaihbaa
namespace Go.Proofs.Ytdoeoncmhaihbaa
set_option maxRecDepth 100000
open Go.RowKit

/-! ### One transaction -/
theorem rdAll_one {b : List Nat} (hb : ∀ x ∈ b, x < 256) : rdAll 1 b = (rdTx b).map fun t => [t] := by
  cases h : rdTx b with
  | some t =>
    obtain ⟨h1, h2⟩ := rdTx_some hb h
    have := rdAll_yes (l := [t]) (by simpa using h1)
    rw [h2]; simpa [txNums] using this
  | none =>
    cases h2 : rdAll 1 b with
    | none => rfl
    | some l =>
      exfalso
      obtain ⟨h3, h4, h5⟩ := rdAll_some hb h2
      match l, h3 with
      | [t], _ =>
        have := rdTx_yes (h4 t (by simp))
        rw [show nuL t.nums = b from by rw [h5]; simp [txNums], h] at this
        cases this
section
variable {w : World} {v : Value} {b : List Nat} {t : TxD}
end
def tOr (o : Option TxD) : TxD := match o with | some t => t | none => ⟨0, 0⟩
def oE {α : Type} (o : Option α) : Nat := match o with | some _ => 0 | none => 61

def tlB (l : List TxD) : List Nat := if LsOk l then lsB l else []
def tlE (l : List TxD) : Nat := if LsOk l then 0 else 61
theorem twice_false {l : List TxD} : twice l = false ↔ (l.map TxD.id).Nodup := by simp [twice]
theorem txNums_snoc (l : List TxD) (t : TxD) : txNums (l ++ [t]) = txNums l ++ t.nums := by simp [txNums]
theorem lsOk_of {l : List TxD} (h : l.length ≤ 3) (ht : twice l = false) (hr : ∀ t ∈ l, t.Right) : LsOk l := ⟨h, hr, twice_false.1 ht⟩
theorem nuL_tx_len {l : List TxD} (h : ∀ t ∈ l, t.Right) : (nuL (txNums l)).length ≤ 20 * l.length := by
  have h1 := nuL_len (txNums l) fun x hx => by have := txNums_rdb h x hx; omega
  rw [txNums_len] at h1; omega
theorem one_rdb {n : Nat} (h : n ≤ 400) : Rdb [(n : Int)] := fun x hx => by rw [List.mem_singleton] at hx; subst hx; omega
theorem nuL_one_len {n : Nat} (h : n ≤ 400) : (nuL [(n : Int)]).length ≤ 10 := by
  have := nuL_len [(n : Int)] fun x hx => by have := one_rdb h x hx; omega
  simpa using this

set_option maxRecDepth 100000 in
set_option maxHeartbeats 1600000 in
theorem TList_any {v : Value} {l : List TxD} {W : World} (hl : Recs 2 TxR W v l) :
    Calls Try.prog 77 #[v] W fun e w' => ∃ v', e = .returned (.tuple #[v', .int .i64 (tlE l : Nat)]) ∧ OwnB W.heap.size w' v' (tlB l) ∧ Ext W w' := by
  refine calls_keep ?_
  have No : ¬ LsOk l → Hid (∀ e w', e = .returned (.tuple #[.slice none 0 0, .int .i64 61]) → Ext W w' → Keep (fun e w' => ∃ v', e = .returned (.tuple #[v', .int .i64 (tlE l : Nat)]) ∧ OwnB W.heap.size w' v' (tlB l) ∧ Ext W w') e w') := fun h => hide_ (fun e w' he hx => Keep.intro ⟨.slice none 0 0, by rw [he, tlE, if_neg h]; rfl, by rw [tlB, if_neg h]; exact OwnB.nil _ _, hx⟩)
  have hX := Ext.refl W
  by_cases hbig : 3 < l.length
  · have t1 : decide ((3 : Int) < (l.length : Int)) = true := by simp; omega
    replace No := No fun h => by have := h.len; omega
    clear hbig
    go_enter Try.func77, Try.ntmps77
    go_wp2_with ((first
      | ((try refine w_yes _ _ _ rfl rfl rfl ?_); refine w_rlen Try.elTx _ rfl rfl (v := v) rfl (hl.ext TxR.stays hX) ?_)
      | fail) <;> (try simp only [Act.put, List.setIfInBounds_toArray, List.set_cons_zero, List.set_cons_succ]))
    go_ret2
    exact No.out _ _ rfl hX
  have t1 : decide ((3 : Int) < (l.length : Int)) = false := by simp; omega
  have hl3 : l.length ≤ 3 := by omega
  clear hbig
  cases htw : twice l with
  | true =>
    replace No := No fun h => by have := twice_false.2 h.ids; rw [htw] at this; cases this
    replace htw := hide_ htw
    go_enter Try.func77, Try.ntmps77
    go_wp2_with ((first
      | ((try refine w_yes _ _ _ rfl rfl rfl ?_); refine w_rlen Try.elTx _ rfl rfl (v := v) rfl (hl.ext TxR.stays hX) ?_)
      | ((try refine w_yes _ _ _ rfl rfl rfl ?_); go_at_call 82; refine (anyTwice_any (hl.ext TxR.stays hX)).mono ?_; rintro e w1 ⟨rfl, hx1⟩; rw [htw.out]; replace hX := hX.trans hx1; clear hx1)
      | fail) <;> (try simp only [Act.put, List.setIfInBounds_toArray, List.set_cons_zero, List.set_cons_succ]))
    go_ret2
    exact No.out _ _ rfl hX
  | false =>
    replace htw := hide_ htw
    have hrd := hide_ (one_rdb (n := l.length) (by omega))
    go_enter Try.func77, Try.ntmps77
    go_wp2_with ((first
      | ((try refine w_yes _ _ _ rfl rfl rfl ?_); refine w_rlen Try.elTx _ rfl rfl (v := v) rfl (hl.ext TxR.stays hX) ?_)
      | ((try refine w_yes _ _ _ rfl rfl rfl ?_); go_at_call 82; refine (anyTwice_any (hl.ext TxR.stays hX)).mono ?_; rintro e w1 ⟨rfl, hx1⟩; rw [htw.out]; replace hX := hX.trans hx1; clear hx1)
      | (refine w_new Try.elI (i64s [(l.length : Int)]) rfl rfl rfl (i64s_cells _) rfl (by omega) ?_; intro v2 w3 hx3 o2; replace o2 : OwnI _ w3 v2 [(l.length : Int)] := o2; replace hX := hX.trans hx3; clear hx3)
      | (go_at_call 83; refine (Nums_yes hrd.out (by simp) o2.ints).mono ?_; rintro e w4 ⟨v3, rfl, o3, hx4⟩; replace o3 := o3.mono hX.size; replace hX := hX.trans hx4; clear o2 hx4)
      | fail) <;> (try simp only [Act.put, List.setIfInBounds_toArray, List.set_cons_zero, List.set_cons_succ]))
    go_loopw [4, 28] (fun vo i wr => ∃ k : Nat, i = .int .i64 k ∧ k ≤ l.length ∧ Hid (∀ t ∈ l.take k, t.Right) ∧ OwnB W.heap.size wr vo (nuL ((l.length : Int) :: txNums (l.take k))) ∧ Ext W wr) (fun _ i _ => l.length - (intOf i).toNat)
    case atStart => exact ⟨0, rfl, Nat.zero_le _, hide_ (by simp), o3, hX⟩
    case round =>
      clear o3 hX
      obtain ⟨k, rfl, hk, hall, o3, hX⟩ := hrel
      by_cases hge : l.length ≤ k
      · obtain rfl : k = l.length := by omega
        have t2 : decide (l.length < l.length) = false := by simp
        rw [List.take_length] at hall o3
        have hok := lsOk_of hl3 htw.out hall.out
        have e1 := hide_ (show tlE l = 0 from if_pos hok)
        have e2 := hide_ (show tlB l = lsB l from if_pos hok)
        clear hge hok
        go_wp2
        go_ret2
        exact Keep.intro ⟨_, by rw [e1.out]; rfl, by rw [e2.out]; exact o3, hX⟩
      have hlt : k < l.length := by omega
      have t2 : decide (k < l.length) = true := by simpa using hlt
      obtain ⟨d, hd⟩ : ∃ d, l[k] = d := ⟨_, rfl⟩
      have hlk := hide_ hd
      have hdm : d ∈ l := hd ▸ List.getElem_mem hlt
      have htk : l.take (k + 1) = l.take k ++ [d] := by rw [List.take_succ_eq_append_getElem hlt, hd]
      clear hge hd
      by_cases hdr : d.Right
      · have hall2 := hide_ (show ∀ t ∈ l.take (k + 1), t.Right from fun t ht => by
          rw [htk] at ht
          rcases List.mem_append.1 ht with ht | ht
          · exact hall.out t ht
          · rw [List.mem_singleton] at ht; subst ht; exact hdr)
        have hbig := hide_ (show (nuL ((l.length : Int) :: txNums (l.take k))).length + (nuL d.nums).length ≤ 140737488355328 from by
          have h1 := nuL_tx_len hall.out
          have h2 := nuL_one_len (n := l.length) (by omega)
          have h3 := nuL_len d.nums fun x hx => by have := hdr.rdb x hx; omega
          have e : (nuL ((l.length : Int) :: txNums (l.take k))) = nuL [(l.length : Int)] ++ nuL (txNums (l.take k)) := nuL_app [(l.length : Int)] _
          rw [e, List.length_append]
          simp [TxD.nums] at h3
          rw [List.length_take] at h1
          simp only [TxD.nums]
          omega)
        have hcat := hide_ (show nuL ((l.length : Int) :: txNums (l.take k)) ++ nuL d.nums = nuL ((l.length : Int) :: txNums (l.take (k + 1))) from by
          rw [htk, txNums_snoc, ← nuL_app]; rfl)
        replace hdr := hide_ hdr
        clear htk hall hdm
        go_wp2_with ((first
          | (refine w_ridx0 Try.elTx _ _ k TxR.stays rfl rfl (v := v) rfl rfl hl hX hlt ?_; rintro p row hrow hrl ⟨rfl, hraw⟩; rw [hlk.out] at hrow)
          | (refine w_pload Try.stTx _ rfl rfl rfl (hrow.ext hX) rfl ?_)
          | (refine w_alloc Try.stTx rfl rfl ?_; intro g7 w5 hg7 hx5 f7)
          | (refine w_astore Try.stTx (us := [.int .i64 d.id, .int .i64 d.fee]) _ _ rfl rfl rfl rfl rfl f7 rfl rfl d.one ?_; intro w6 hm6 f6; replace f7 := f6; have hx := hm6.after hx5 (fun i e => e ▸ hg7); replace o3 := o3.ext hx; replace hX := hX.trans hx; clear f6 hm6 hx5 hx hrow hrl hraw)
          | (refine w_aload Try.stTx _ rfl rfl rfl f7 rfl ?_)
          | (go_at_call 84; refine (TBytes_yes hdr.out _).mono ?_; rintro e w7 ⟨v8, rfl, o8, hx7⟩; have b8 := o8.byt; replace o3 := o3.ext hx7; replace hX := hX.trans hx7; clear o8 hx7 f7)
          | (refine appb _ _ rfl rfl rfl rfl o3 b8 hbig.out hX.size ?_; intro v9 w9 o9 hb9 hg9; replace hX := hX.trans' hb9; replace o3 := o9; clear b8 hb9 hg9 o9)
          | fail) <;> (try simp only [Act.put, List.setIfInBounds_toArray, List.set_cons_zero, List.set_cons_succ]))
        rw [hcat.out] at o3
        go_roundw
        case rel => exact ⟨k + 1, by go_num, by omega, hall2, o3, hX⟩
        case measure => simp [intOf]; omega
      · replace No := No fun h => hdr (h.right d hdm)
        replace hdr := hide_ hdr
        clear htk hall hdm
        go_wp2_with ((first
          | (refine w_ridx0 Try.elTx _ _ k TxR.stays rfl rfl (v := v) rfl rfl hl hX hlt ?_; rintro p row hrow hrl ⟨rfl, hraw⟩; rw [hlk.out] at hrow)
          | (refine w_pload Try.stTx _ rfl rfl rfl (hrow.ext hX) rfl ?_)
          | (refine w_alloc Try.stTx rfl rfl ?_; intro g7 w5 hg7 hx5 f7)
          | (refine w_astore Try.stTx (us := [.int .i64 d.id, .int .i64 d.fee]) _ _ rfl rfl rfl rfl rfl f7 rfl rfl d.one ?_; intro w6 hm6 f6; replace f7 := f6; have hx := hm6.after hx5 (fun i e => e ▸ hg7); replace o3 := o3.ext hx; replace hX := hX.trans hx; clear f6 hm6 hx5 hx hrow hrl hraw)
          | (refine w_aload Try.stTx _ rfl rfl rfl f7 rfl ?_)
          | (go_at_call 84; refine (TBytes_no hdr.out _).mono ?_; rintro e w7 ⟨v8, rfl, hx7⟩; replace hX := hX.trans hx7; clear hx7 f7)
          | fail) <;> (try simp only [Act.put, List.setIfInBounds_toArray, List.set_cons_zero, List.set_cons_succ]))
        go_ret2
        exact No.out _ _ rfl hX

/-! ### The list of bytes -/
def rdLs (b : List Nat) : Option (List TxD) := match rns 1 b with
  | some ([n], s) => if 0 ≤ n ∧ n ≤ 3 then (match rdAll n.toNat s with | some l => if twice l then none else some l | none => none) else none
  | _ => none
theorem rdLs_iff {b : List Nat} (hb : ∀ x ∈ b, x < 256) (l : List TxD) : rdLs b = some l ↔ IsLs b l := by
  constructor
  · intro h
    unfold rdLs at h
    split at h
    · rename_i n s hr
      split at h
      · rename_i hn
        split at h
        · rename_i l' hl
          split at h
          · cases h
          · rename_i ht
            cases h
            obtain ⟨h1, _, _⟩ := rns_was 1 b [n] s hb hr
            have hs : ∀ x ∈ s, x < 256 := fun x hx => hb x (by rw [h1]; exact List.mem_append_right _ hx)
            obtain ⟨h3, h4, h5⟩ := rdAll_some hs hl
            refine ⟨lsOk_of (by omega) (by simpa using ht) h4, ?_⟩
            rw [h1, h5, ← nuL_app]
            have e : n = (l.length : Int) := by omega
            rw [e]; rfl
        · cases h
      · cases h
    · cases h
  · rintro ⟨h1, h2⟩
    have hl := h1.len
    have e1 : b = nuL [(l.length : Int)] ++ nuL (txNums l) := by rw [h2, lsB, lsNums, ← nuL_app]; rfl
    have e2 : rns 1 b = some ([(l.length : Int)], nuL (txNums l)) := by rw [e1]; exact rns_yes (one_rdb (by omega)) _
    unfold rdLs
    rw [e2]
    simp only
    rw [if_pos (by omega), Int.toNat_natCast, rdAll_yes h1.right]
    simp only
    rw [twice_false.2 h1.ids]
    rfl
theorem rdLs_c1 {b : List Nat} (h : rns 1 b = none) : rdLs b = none := by unfold rdLs; rw [h]
theorem rdLs_c2 {b s : List Nat} {n : Int} (h : rns 1 b = some ([n], s)) (hn : ¬ (0 ≤ n ∧ n ≤ 3)) : rdLs b = none := by unfold rdLs; rw [h]; exact if_neg hn
theorem rdLs_c3 {b s : List Nat} {m : Nat} (h : rns 1 b = some ([(m : Int)], s)) (hm : m ≤ 3) : rdLs b = match rdAll m s with | some l => if twice l then none else some l | none => none := by
  unfold rdLs; rw [h]; exact if_pos (by omega)

end Go.Proofs.Ytdoeoncmhaihbaa
namespace Go.Proofs.Ytdoeoncmhaihbaa
set_option maxRecDepth 100000
open Go.RowKit

theorem lsNums_len (l : List TxD) : (lsNums l).length = 1 + 2 * l.length := by simp [lsNums, txNums_len]; omega

set_option maxRecDepth 100000 in
set_option maxHeartbeats 1600000 in
theorem refTList_any {v : Value} {l : List TxD} {W : World} (hl : Recs 2 TxR W v l) :
    Calls Try.prog 58 #[v] W fun e w' => ∃ v', e = .returned (.tuple #[v', .int .i64 (tlE l : Nat)]) ∧ OwnB W.heap.size w' v' (tlB l) ∧ Ext W w' := by
  refine calls_keep ?_
  have No : ¬ LsOk l → Hid (∀ e w', e = .returned (.tuple #[.slice none 0 0, .int .i64 61]) → Ext W w' → Keep (fun e w' => ∃ v', e = .returned (.tuple #[v', .int .i64 (tlE l : Nat)]) ∧ OwnB W.heap.size w' v' (tlB l) ∧ Ext W w') e w') := fun h => hide_ (fun e w' he hx => Keep.intro ⟨.slice none 0 0, by rw [he, tlE, if_neg h]; rfl, by rw [tlB, if_neg h]; exact OwnB.nil _ _, hx⟩)
  have hX := Ext.refl W
  by_cases hbig : 3 < l.length
  · have t1 : decide ((3 : Int) < (l.length : Int)) = true := by simp; omega
    replace No := No fun h => by have := h.len; omega
    clear hbig
    go_enter Try.func58, Try.ntmps58
    go_wp2_with ((first
      | (refine w_rlen Try.elTx _ rfl rfl (v := v) rfl (hl.ext TxR.stays hX) ?_)
      | fail) <;> (try simp only [Act.put, List.setIfInBounds_toArray, List.set_cons_zero, List.set_cons_succ]))
    go_ret2
    exact No.out _ _ rfl hX
  have t1 : decide ((3 : Int) < (l.length : Int)) = false := by simp; omega
  have hl3 : l.length ≤ 3 := by omega
  clear hbig
  go_enter Try.func58, Try.ntmps58
  go_wp2_with ((first
    | (refine w_rlen Try.elTx _ rfl rfl (v := v) rfl (hl.ext TxR.stays hX) ?_)
    | (refine w_new Try.elI (i64s [(l.length : Int)]) rfl rfl rfl (i64s_cells _) rfl (by omega) ?_; intro v2 w3 hx3 o2; replace o2 := OwnI.mono (show OwnI _ w3 v2 [(l.length : Int)] from o2) hX.size; replace hX := hX.trans hx3; clear hx3)
    | fail) <;> (try simp only [Act.put, List.setIfInBounds_toArray, List.set_cons_zero, List.set_cons_succ]))
  go_loopw [4, 17] (fun vo i wr => ∃ k : Nat, i = .int .i64 k ∧ k ≤ l.length ∧ Hid ((∀ t ∈ l.take k, t.Right) ∧ ∀ i j, i < j → j < k → ∀ x y, l[i]? = some x → l[j]? = some y → x.id ≠ y.id) ∧ OwnI W.heap.size wr vo ((l.length : Int) :: txNums (l.take k)) ∧ Ext W wr) (fun _ i _ => l.length - (intOf i).toNat)
  case atStart => exact ⟨0, rfl, Nat.zero_le _, hide_ ⟨by simp, fun i j _ h => by omega⟩, o2, hX⟩
  case round =>
    clear o2 hX
    obtain ⟨k, rfl, hk, hall, o2, hX⟩ := hrel
    by_cases hge : l.length ≤ k
    · obtain rfl : k = l.length := by omega
      have t2 : decide (l.length < l.length) = false := by simp
      rw [List.take_length] at hall o2
      have hok := lsOk_of hl3 (twice_no fun i j hij hj => hall.out.2 i j hij hj) hall.out.1
      have e1 := hide_ (show tlE l = 0 from if_pos hok)
      have e2 := hide_ (show tlB l = nuL ((l.length : Int) :: txNums l) from if_pos hok)
      have hrd := hide_ (show Rdb ((l.length : Int) :: txNums l) from hok.rdb)
      have hlen := hide_ (show ((l.length : Int) :: txNums l).length ≤ 64 from by have := lsNums_len l; unfold lsNums at this; omega)
      clear hge hok
      go_wp2_with (first
        | (go_at_call 73; refine (refNums_yes hrd.out hlen.out o2.ints).mono ?_; rintro e w4 ⟨v3, rfl, o3, hx4⟩; replace o3 := o3.mono hX.size; replace hX := hX.trans hx4; clear o2 hx4)
        | fail)
      go_ret2
      exact Keep.intro ⟨_, by rw [e1.out]; rfl, by rw [e2.out]; exact o3, hX⟩
    have hlt : k < l.length := by omega
    have t2 : decide (k < l.length) = true := by simpa using hlt
    obtain ⟨d, hd⟩ : ∃ d, l[k] = d := ⟨_, rfl⟩
    have hdk := hide_ (show l[k]? = some d from by rw [List.getElem?_eq_getElem hlt, hd])
    have hlk := hide_ hd
    have hdm : d ∈ l := hd ▸ List.getElem_mem hlt
    have htk := hide_ (show (l.take k).length = k from by simp; omega)
    clear hge hd
    by_cases hdr : d.Right
    rotate_left
    · replace No := No fun h => hdr (h.right d hdm)
      have hdec := hide_ (decide_eq_false hdr)
      clear hall hdm hdr
      go_wp2_with ((first
        | (refine w_ridx0 Try.elTx _ _ k TxR.stays rfl rfl (v := v) rfl rfl hl hX hlt ?_; rintro p row hrow hrl ⟨rfl, hraw⟩; rw [hlk.out] at hrow)
        | (refine w_pload Try.stTx _ rfl rfl rfl (hrow.ext hX) rfl ?_)
        | (refine w_alloc Try.stTx rfl rfl ?_; intro g6 w4 hg6 hx4 f6)
        | (refine w_astore Try.stTx (us := [.int .i64 d.id, .int .i64 d.fee]) _ _ rfl rfl rfl rfl rfl f6 rfl rfl d.one ?_; intro w5 hm5 f5; replace f6 := f5; have hx := hm5.after hx4 (fun i e => e ▸ hg6); replace o2 := o2.ext hx; replace hX := hX.trans hx; clear f5 hm5 hx4 hg6 hx hrow hrl hraw)
        | (refine w_aload Try.stTx _ rfl rfl rfl f6 rfl ?_)
        | (go_at_call 72; refine (refRight_any d _).mono ?_; rintro e w7 ⟨rfl, hx7⟩; rw [hdec.out]; replace f6 := f6.ext hx7; replace o2 := o2.ext hx7; replace hX := hX.trans hx7; clear hx7)
        | fail) <;> (try simp only [Act.put, List.setIfInBounds_toArray, List.set_cons_zero, List.set_cons_succ]))
      go_ret2
      exact No.out _ _ rfl hX
    have hdec := hide_ (decide_eq_true hdr)
    have hbig := hide_ (show (((l.length : Int) :: txNums (l.take k)).length + d.nums.length) * 8 ≤ 140737488355328 from by
      have := txNums_len (l.take k)
      rw [htk.out] at this
      simp [TxD.nums]; omega)
    clear hdm
    replace hdr := hide_ hdr
    go_wp2_with ((first
      | (refine w_ridx0 Try.elTx _ _ k TxR.stays rfl rfl (v := v) rfl rfl hl hX hlt ?_; rintro p row hrow hrl ⟨rfl, hraw⟩; rw [hlk.out] at hrow)
      | (refine w_pload Try.stTx _ rfl rfl rfl (hrow.ext hX) rfl ?_)
      | (refine w_alloc Try.stTx rfl rfl ?_; intro g6 w4 hg6 hx4 f6)
      | (refine w_astore Try.stTx (us := [.int .i64 d.id, .int .i64 d.fee]) _ _ rfl rfl rfl rfl rfl f6 rfl rfl d.one ?_; intro w5 hm5 f5; replace f6 := f5; have hx := hm5.after hx4 (fun i e => e ▸ hg6); replace o2 := o2.ext hx; replace hX := hX.trans hx; clear f5 hm5 hx4 hg6 hx hrow hrl hraw)
      | (refine w_aload Try.stTx _ rfl rfl rfl f6 rfl ?_)
      | (go_at_call 72; refine (refRight_any d _).mono ?_; rintro e w7 ⟨rfl, hx7⟩; rw [hdec.out]; replace f6 := f6.ext hx7; replace o2 := o2.ext hx7; replace hX := hX.trans hx7; clear hx7)
      | (refine w_nto0 Try.elTx _ _ k rfl rfl (v := v) rfl rfl hl (by omega) ?_; intro vs hs)
      | (refine w_rlen Try.elTx _ rfl rfl (v := vs) rfl (hs.ext TxR.stays hX) ?_; rw [htk.out])
      | fail) <;> (try simp only [Act.put, List.setIfInBounds_toArray, List.set_cons_zero, List.set_cons_succ]))
    go_loopw [29] (fun i wr => ∃ j : Nat, i = .int .i64 j ∧ j ≤ k ∧ Hid (∀ i, i < j → ∀ x, l[i]? = some x → x.id ≠ d.id) ∧ Fs wr g6 [.int .i64 d.id, .int .i64 d.fee] ∧ OwnI W.heap.size wr u4 ((l.length : Int) :: txNums (l.take k)) ∧ Ext W wr) (fun i _ => k - (intOf i).toNat)
    case atStart => exact ⟨0, rfl, Nat.zero_le _, fun i h => by omega, f6, o2, hX⟩
    case round =>
      clear f6 hX o2
      obtain ⟨j, rfl, hj, hm, f6, o2, hX⟩ := hrel
      by_cases hjlt : j < k
      · have t3 : decide (j < k) = true := by simpa using hjlt
        obtain ⟨d2, hd2⟩ : ∃ d2, (l.take k)[j]'(by simp; omega) = d2 := ⟨_, rfl⟩
        have hdj := hide_ (show l[j]? = some d2 from by rw [← hd2, List.getElem_take, List.getElem?_eq_getElem])
        have hlj := hide_ hd2
        clear hd2
        cases hc : (d2.id == d.id)
        · have hm2 := hide_ (show ∀ i, i < j + 1 → ∀ x, l[i]? = some x → x.id ≠ d.id from fun i hi x hx => by
            by_cases hij : i < j
            · exact hm.out i hij x hx
            · obtain rfl : i = j := by omega
              rw [hdj.out] at hx; cases hx
              rw [beq_eq_false_iff_ne] at hc
              exact hc)
          clear hm
          go_wp2_with ((first
            | (refine w_ridx0 Try.elTx _ _ j TxR.stays rfl rfl (v := vs) rfl rfl hs hX (by rw [htk.out]; exact hjlt) ?_; rintro p row hrow hrl ⟨rfl, hraw⟩; rw [hlj.out] at hrow)
            | (refine w_pload Try.stTx _ rfl rfl rfl (hrow.ext hX) rfl ?_)
            | (refine w_alloc Try.stTx rfl rfl ?_; intro g8 w8 hg8 hx8 f8; have n68 : ¬ g6 = g8 := (by have := f6.lt; omega); replace f6 := f6.ext hx8)
            | (refine w_astore Try.stTx (us := [.int .i64 d2.id, .int .i64 d2.fee]) _ _ rfl rfl rfl rfl rfl f8 rfl rfl d2.one ?_; intro w9 hm9 f9; replace f8 := f9; have hx := hm9.after hx8 (fun i e => e ▸ hg8); replace f6 := f6.mod hm9 n68; replace o2 := o2.ext hx; replace hX := hX.trans hx; clear f9 hm9 hx8 hg8 hx hrow hrl hraw)
            | (refine w_field Try.stTx _ _ _ rfl rfl rfl (by omega) ?_)
            | (refine w_fload _ rfl rfl rfl f6 rfl (agg_of (by kernel_rfl)) ?_)
            | (refine w_fload _ rfl rfl rfl f8 rfl (agg_of (by kernel_rfl)) ?_)
            | fail) <;> (try simp only [Act.put, List.setIfInBounds_toArray, List.set_cons_zero, List.set_cons_succ]))
          go_roundw
          case rel => exact ⟨j + 1, by go_num, by omega, hm2, f6, o2, hX⟩
          case measure => simp [intOf]; omega
        · replace No := No fun h => by
            have h1 := twice_yes hjlt hdj.out hdk.out (by rw [beq_iff_eq] at hc; exact hc)
            rw [twice_false.2 h.ids] at h1; cases h1
          clear hm
          go_wp2_with ((first
            | (refine w_ridx0 Try.elTx _ _ j TxR.stays rfl rfl (v := vs) rfl rfl hs hX (by rw [htk.out]; exact hjlt) ?_; rintro p row hrow hrl ⟨rfl, hraw⟩; rw [hlj.out] at hrow)
            | (refine w_pload Try.stTx _ rfl rfl rfl (hrow.ext hX) rfl ?_)
            | (refine w_alloc Try.stTx rfl rfl ?_; intro g8 w8 hg8 hx8 f8; have n68 : ¬ g6 = g8 := (by have := f6.lt; omega); replace f6 := f6.ext hx8)
            | (refine w_astore Try.stTx (us := [.int .i64 d2.id, .int .i64 d2.fee]) _ _ rfl rfl rfl rfl rfl f8 rfl rfl d2.one ?_; intro w9 hm9 f9; replace f8 := f9; have hx := hm9.after hx8 (fun i e => e ▸ hg8); replace f6 := f6.mod hm9 n68; replace o2 := o2.ext hx; replace hX := hX.trans hx; clear f9 hm9 hx8 hg8 hx hrow hrl hraw)
            | (refine w_field Try.stTx _ _ _ rfl rfl rfl (by omega) ?_)
            | (refine w_fload _ rfl rfl rfl f6 rfl (agg_of (by kernel_rfl)) ?_)
            | (refine w_fload _ rfl rfl rfl f8 rfl (agg_of (by kernel_rfl)) ?_)
            | fail) <;> (try simp only [Act.put, List.setIfInBounds_toArray, List.set_cons_zero, List.set_cons_succ]))
          go_ret2
          exact No.out _ _ rfl hX
      · have t3 : decide (j < k) = false := by simpa using hjlt
        have htk1 : l.take (k + 1) = l.take k ++ [d] := by rw [List.take_succ_eq_append_getElem hlt, hlk.out]
        have hall2 := hide_ (show (∀ t ∈ l.take (k + 1), t.Right) ∧ ∀ i j, i < j → j < k + 1 → ∀ x y, l[i]? = some x → l[j]? = some y → x.id ≠ y.id from ⟨fun t ht => by
            rw [htk1] at ht
            rcases List.mem_append.1 ht with ht | ht
            · exact hall.out.1 t ht
            · rw [List.mem_singleton] at ht; subst ht; exact hdr.out, fun i j' hij hj' x y hx hy => by
            by_cases hjk : j' < k
            · exact hall.out.2 i j' hij hjk x y hx hy
            · obtain rfl : j' = k := by omega
              rw [hdk.out] at hy; cases hy
              exact hm.out i (by omega) x hx⟩)
        have hcat := hide_ (show ((l.length : Int) :: txNums (l.take k)) ++ d.nums = (l.length : Int) :: txNums (l.take (k + 1)) from by
          rw [htk1, txNums_snoc]; rfl)
        clear hm hall hjlt htk1
        go_wp2_with ((first
          | (refine w_field Try.stTx _ _ _ rfl rfl rfl (by omega) ?_)
          | (refine w_fload _ rfl rfl rfl f6 rfl (agg_of (by kernel_rfl)) ?_)
          | (refine w_new Try.elI (i64s d.nums) rfl rfl rfl (i64s_cells _) rfl (by omega) ?_; intro v3 w3 hx3 o3; have i3 : Ints w3 v3 d.nums := OwnI.ints (show OwnI _ w3 v3 d.nums from o3); replace o2 := o2.ext hx3; replace hX := hX.trans hx3; clear hx3 o3 f6)
          | (refine appi _ _ rfl rfl rfl rfl o2 i3 hbig.out hX.size ?_; intro v9 w9 o9 hb9 hg9 hh9; replace hX := hX.trans' hb9; replace o2 := o9; clear i3 hb9 hg9 o9 hh9)
          | fail) <;> (try simp only [Act.put, List.setIfInBounds_toArray, List.set_cons_zero, List.set_cons_succ]))
        rw [hcat.out] at o2
        go_roundw
        case rel => exact ⟨k + 1, by go_num, by omega, hall2, o2, hX⟩
        case measure => simp [intOf]; omega

/-! ### Two lists of transactions compared -/
theorem rtxne {o : Oper} {ρ : Operand → Value} {w : World} (x y : Operand) {t u : TxD} {b : Bool} (ho : o.op = .binOp .neq 56 x y 56) (hx : (Sp.recv TxR TxR.stays t).p (ρ x) w) (hy : (Sp.recv TxR TxR.stays u).p (ρ y) w) (hb : (!decide (t = u)) = b) :
    ∃ v', Runs Try.prog o ρ w v' ∧ (Sp.val (.bool b)).p v' w := by
  obtain ⟨row, h1, rfl, _⟩ := hx
  obtain ⟨row', h2, rfl, _⟩ := hy
  subst hb
  exact ⟨_, runs_txne x y t u ho h1 h2, rfl⟩

end Go.Proofs.Ytdoeoncmhaihbaa
namespace Go.Proofs.Ytdoeoncmhaihbaa
set_option maxRecDepth 100000
open Go.RowKit

theorem refRightR {w : World} (t : TxD) {b : Bool} (h : decide t.Right = b) : Calls Try.prog 72 #[.agg #[.int .i64 t.id, .int .i64 t.fee]] w fun e w' => ∃ v', e = .returned v' ∧ Ext w w' ∧ Sp.p (.val (.bool b)) v' w' := by
  refine (refRight_any t w).mono ?_
  rintro e w' ⟨rfl, hx⟩
  exact ⟨_, rfl, hx, by rw [h]; rfl⟩
theorem rdTx_c1 {b : List Nat} (h : rns 2 b = none) : rdTx b = none := by unfold rdTx; rw [h]
theorem rdTx_c2 {b s : List Nat} {i f : Int} (h : rns 2 b = some ([i, f], s)) (hs : s ≠ []) : rdTx b = none := by
  unfold rdTx; rw [h]
  cases s with
  | nil => exact absurd rfl hs
  | cons x s => rfl
theorem rdTx_c3 {b : List Nat} {i f : Int} (h : rns 2 b = some ([i, f], [])) (hr : ¬ (⟨i, f⟩ : TxD).Right) : rdTx b = none := by unfold rdTx; rw [h]; exact if_neg hr
theorem rdTx_c4 {b : List Nat} {i f : Int} (h : rns 2 b = some ([i, f], [])) (hr : (⟨i, f⟩ : TxD).Right) : rdTx b = some ⟨i, f⟩ := by unfold rdTx; rw [h]; exact if_pos hr

theorem isLs_rns {b : List Nat} {l : List TxD} (h : IsLs b l) : rns (1 + 2 * l.length) b = some (lsNums l, []) := by
  rw [h.2]; exact rns_ls h.1
theorem ls_next {b : List Nat} {n : Nat} (hn : ∀ l, IsLs b l → n ≤ l.length) (h : ∀ l, IsLs b l → l.length ≠ n) : ∀ l, IsLs b l → n + 1 ≤ l.length := fun l hl => by
  have := hn l hl
  have := h l hl
  omega
theorem rdLs_none {b : List Nat} (hb : ∀ x ∈ b, x < 256) (h : ∀ l, ¬ IsLs b l) : rdLs b = none := by
  cases hr : rdLs b with
  | none => rfl
  | some l => exact absurd ((rdLs_iff hb l).1 hr) (h l)
/-- What is read of all of b, as a list of transactions, is the list, if one of this length has these bytes. -/
theorem ls_pairs {b : List Nat} {n : Nat} {xs : List Int} (hr : rns (1 + 2 * n) b = some (xs, [])) {l : List TxD} (h : IsLs b l) (hl : l.length = n) : pairs xs.tail = l := by
  have := isLs_rns h
  rw [hl, hr] at this
  cases this
  exact pairs_txNums l

end Go.Proofs.Ytdoeoncmhaihbaa
