/- The contracts of tx.Read, tx.List and tx.ReadList. -/
import Derived.Test.YtabbgnlabiakoaaTx4
namespace Go.Proofs.Ytabbgnlabiakoaa
open Go.RowKit

/-! ### One transaction -/
theorem rdAll_one {b : List Nat} (hb : ∀ x ∈ b, x < 256) : rdAll 1 b = (rdTx b).map fun t => [t] := by
  cases h : rdTx b with
  | some t =>
    obtain ⟨h1, h2⟩ := rdTx_some hb h
    have := rdAll_yes (l := [t]) (by simpa using h1)
    rw [h2]; simpa [txNums] using this
  | none =>
    cases h2 : rdAll 1 b with
    | none => rfl
    | some l =>
      exfalso
      obtain ⟨h3, h4, h5⟩ := rdAll_some hb h2
      match l, h3 with
      | [t], _ =>
        have := rdTx_yes (h4 t (by simp))
        rw [show nuL t.nums = b from by rw [h5]; simp [txNums], h] at this
        cases this
section
variable {w : World} {v : Value} {b : List Nat} {t : TxD}
theorem readAll_1 (h : rdTx b = some t) (hb : ∀ x ∈ b, x < 256) (hlen : b.length ≤ 140737488355328) (hv : Byt w v b) :
    Calls Try.prog 24 #[v, .int .i64 1] w fun e w' => ∃ v', e = .returned (.tuple #[v', .bool true]) ∧ Ext w w' ∧ OwnT w.heap.size w' v' [t] := by
  have := readAll_any 1 (by omega) hb hlen hv
  rw [rdAll_one hb, h] at this; exact this
theorem readAll_0 (h : rdTx b = none) (hb : ∀ x ∈ b, x < 256) (hlen : b.length ≤ 140737488355328) (hv : Byt w v b) :
    Calls Try.prog 24 #[v, .int .i64 1] w fun e w' => ∃ v', e = .returned (.tuple #[v', .bool false]) ∧ Ext w w' := by
  have := readAll_any 1 (by omega) hb hlen hv
  rw [rdAll_one hb, h] at this
  refine this.mono ?_
  rintro e w' ⟨v', rfl, h1, _⟩
  exact ⟨v', rfl, h1⟩
end
def tOr (o : Option TxD) : TxD := match o with | some t => t | none => ⟨0, 0⟩
def oE {α : Type} (o : Option α) : Nat := match o with | some _ => 0 | none => 61

set_option maxRecDepth 100000 in
set_option maxHeartbeats 800000 in
theorem TRead_any {w : World} {v : Value} {b : List Nat} (hb : ∀ x ∈ b, x < 256) (hlen : b.length ≤ 140737488355328) (hv : Byt w v b) :
    Calls Try.prog 10 #[v] w fun e w' => e = .returned (.tuple #[.agg #[.int .i64 (tOr (rdTx b)).id, .int .i64 (tOr (rdTx b)).fee], .int .i64 (oE (rdTx b) : Nat)]) ∧ Ext w w' := by
  refine calls_keep ?_
  cases hr : rdTx b with
  | none =>
    replace hr := hide_ hr
    go_enter Try.func10, Try.ntmps10
    go_wp2_with ((first
      | (refine w_alloc Try.stTx rfl rfl ?_; intro g2 w1 hg2 hX f2)
      | (go_at_call 24; refine (readAll_0 hr.out hb hlen (hv.ext hX)).mono ?_; rintro e w2 ⟨v2, rfl, hx2⟩; replace f2 := f2.ext hx2; replace hX := hX.trans hx2; clear hx2)
      | (refine w_sbuild Try.stTx [.int .i64 0, .int .i64 0] rfl rfl rfl (by intro p hp; simp at hp) ?_)
      | (refine w_astore Try.stTx (us := [.int .i64 0, .int .i64 0]) _ _ rfl rfl rfl rfl rfl f2 rfl rfl (TxD.one ⟨0, 0⟩) ?_; intro w8 hm8 f8; have hX8 := hm8.after hX (fun i e => e ▸ hg2))
      | fail) <;> (try simp only [Act.put, List.setIfInBounds_toArray, List.set_cons_zero, List.set_cons_succ]))
    exact bodyPost_ret (ret_two Try.stTx rfl rfl rfl f8 rfl) rfl (Keep.intro ⟨rfl, hX8⟩)
  | some t =>
    replace hr := hide_ hr
    go_enter Try.func10, Try.ntmps10
    go_wp2_with ((first
      | (refine w_alloc Try.stTx rfl rfl ?_; intro g2 w1 hg2 hX f2)
      | (go_at_call 24; refine (readAll_1 hr.out hb hlen (hv.ext hX)).mono ?_; rintro e w2 ⟨v2, rfl, hx2, o2⟩; have r2 := o2.recs; replace f2 := f2.ext hx2; replace hX := hX.trans hx2; clear hx2 o2)
      | (refine w_ridx Try.elTx _ _ 0 rfl rfl rfl rfl r2 (by simp) ?_; rintro p row hrow hrl ⟨rfl, hraw⟩)
      | (refine w_pload Try.stTx _ rfl rfl rfl hrow rfl ?_)
      | (refine w_astore Try.stTx (us := [.int .i64 t.id, .int .i64 t.fee]) _ _ rfl rfl rfl rfl rfl f2 rfl rfl t.one ?_; intro w8 hm8 f8; have hX8 := hm8.after hX (fun i e => e ▸ hg2))
      | fail) <;> (try simp only [Act.put, List.setIfInBounds_toArray, List.set_cons_zero, List.set_cons_succ]))
    exact bodyPost_ret (ret_two Try.stTx rfl rfl rfl f8 rfl) rfl (Keep.intro ⟨rfl, hX8⟩)

/-! ### Lists -/
def tlB (l : List TxD) : List Nat := if LsOk l then lsB l else []
def tlE (l : List TxD) : Nat := if LsOk l then 0 else 61
theorem twice_false {l : List TxD} : twice l = false ↔ (l.map TxD.id).Nodup := by simp [twice]
theorem txNums_snoc (l : List TxD) (t : TxD) : txNums (l ++ [t]) = txNums l ++ t.nums := by simp [txNums]
theorem lsOk_of {l : List TxD} (h : l.length ≤ 3) (ht : twice l = false) (hr : ∀ t ∈ l, t.Right) : LsOk l := ⟨h, hr, twice_false.1 ht⟩
theorem nuL_tx_len {l : List TxD} (h : ∀ t ∈ l, t.Right) : (nuL (txNums l)).length ≤ 20 * l.length := by
  have h1 := nuL_len (txNums l) fun x hx => by have := txNums_rdb h x hx; omega
  rw [txNums_len] at h1; omega
theorem one_rdb {n : Nat} (h : n ≤ 400) : Rdb [(n : Int)] := fun x hx => by rw [List.mem_singleton] at hx; subst hx; omega
theorem nuL_one_len {n : Nat} (h : n ≤ 400) : (nuL [(n : Int)]).length ≤ 10 := by
  have := nuL_len [(n : Int)] fun x hx => by have := one_rdb h x hx; omega
  simpa using this

set_option maxRecDepth 100000 in
set_option maxHeartbeats 1600000 in
theorem TList_any {v : Value} {l : List TxD} {W : World} (hl : Recs 2 TxR W v l) :
    Calls Try.prog 18 #[v] W fun e w' => ∃ v', e = .returned (.tuple #[v', .int .i64 (tlE l : Nat)]) ∧ OwnB W.heap.size w' v' (tlB l) ∧ Ext W w' := by
  refine calls_keep ?_
  have No : ¬ LsOk l → Hid (∀ e w', e = .returned (.tuple #[.slice none 0 0, .int .i64 61]) → Ext W w' → Keep (fun e w' => ∃ v', e = .returned (.tuple #[v', .int .i64 (tlE l : Nat)]) ∧ OwnB W.heap.size w' v' (tlB l) ∧ Ext W w') e w') := fun h => hide_ (fun e w' he hx => Keep.intro ⟨.slice none 0 0, by rw [he, tlE, if_neg h]; rfl, by rw [tlB, if_neg h]; exact OwnB.nil _ _, hx⟩)
  have hX := Ext.refl W
  by_cases hbig : 3 < l.length
  · have t1 : decide ((3 : Int) < (l.length : Int)) = true := by simp; omega
    replace No := No fun h => by have := h.len; omega
    clear hbig
    go_enter Try.func18, Try.ntmps18
    go_wp2_with ((first
      | ((try refine w_yes _ _ _ rfl rfl rfl ?_); refine w_rlen Try.elTx _ rfl rfl (v := v) rfl (hl.ext TxR.stays hX) ?_)
      | fail) <;> (try simp only [Act.put, List.setIfInBounds_toArray, List.set_cons_zero, List.set_cons_succ]))
    go_ret2
    exact No.out _ _ rfl hX
  have t1 : decide ((3 : Int) < (l.length : Int)) = false := by simp; omega
  have hl3 : l.length ≤ 3 := by omega
  clear hbig
  cases htw : twice l with
  | true =>
    replace No := No fun h => by have := twice_false.2 h.ids; rw [htw] at this; cases this
    replace htw := hide_ htw
    go_enter Try.func18, Try.ntmps18
    go_wp2_with ((first
      | ((try refine w_yes _ _ _ rfl rfl rfl ?_); refine w_rlen Try.elTx _ rfl rfl (v := v) rfl (hl.ext TxR.stays hX) ?_)
      | ((try refine w_yes _ _ _ rfl rfl rfl ?_); go_at_call 27; refine (anyTwice_any (hl.ext TxR.stays hX)).mono ?_; rintro e w1 ⟨rfl, hx1⟩; rw [htw.out]; replace hX := hX.trans hx1; clear hx1)
      | fail) <;> (try simp only [Act.put, List.setIfInBounds_toArray, List.set_cons_zero, List.set_cons_succ]))
    go_ret2
    exact No.out _ _ rfl hX
  | false =>
    replace htw := hide_ htw
    have hrd := hide_ (one_rdb (n := l.length) (by omega))
    go_enter Try.func18, Try.ntmps18
    go_wp2_with ((first
      | ((try refine w_yes _ _ _ rfl rfl rfl ?_); refine w_rlen Try.elTx _ rfl rfl (v := v) rfl (hl.ext TxR.stays hX) ?_)
      | ((try refine w_yes _ _ _ rfl rfl rfl ?_); go_at_call 27; refine (anyTwice_any (hl.ext TxR.stays hX)).mono ?_; rintro e w1 ⟨rfl, hx1⟩; rw [htw.out]; replace hX := hX.trans hx1; clear hx1)
      | (refine w_new Try.elI (i64s [(l.length : Int)]) rfl rfl rfl (i64s_cells _) rfl (by omega) ?_; intro v2 w3 hx3 o2; replace o2 : OwnI _ w3 v2 [(l.length : Int)] := o2; replace hX := hX.trans hx3; clear hx3)
      | (go_at_call 25; refine (Nums_yes hrd.out (by simp) o2.ints).mono ?_; rintro e w4 ⟨v3, rfl, o3, hx4⟩; replace o3 := o3.mono hX.size; replace hX := hX.trans hx4; clear o2 hx4)
      | fail) <;> (try simp only [Act.put, List.setIfInBounds_toArray, List.set_cons_zero, List.set_cons_succ]))
    go_loopw [4, 28] (fun vo i wr => ∃ k : Nat, i = .int .i64 k ∧ k ≤ l.length ∧ Hid (∀ t ∈ l.take k, t.Right) ∧ OwnB W.heap.size wr vo (nuL ((l.length : Int) :: txNums (l.take k))) ∧ Ext W wr) (fun _ i _ => l.length - (intOf i).toNat)
    case atStart => exact ⟨0, rfl, Nat.zero_le _, hide_ (by simp), o3, hX⟩
    case round =>
      clear o3 hX
      obtain ⟨k, rfl, hk, hall, o3, hX⟩ := hrel
      by_cases hge : l.length ≤ k
      · obtain rfl : k = l.length := by omega
        have t2 : decide (l.length < l.length) = false := by simp
        rw [List.take_length] at hall o3
        have hok := lsOk_of hl3 htw.out hall.out
        have e1 := hide_ (show tlE l = 0 from if_pos hok)
        have e2 := hide_ (show tlB l = lsB l from if_pos hok)
        clear hge hok
        go_wp2
        go_ret2
        exact Keep.intro ⟨_, by rw [e1.out]; rfl, by rw [e2.out]; exact o3, hX⟩
      have hlt : k < l.length := by omega
      have t2 : decide (k < l.length) = true := by simpa using hlt
      obtain ⟨d, hd⟩ : ∃ d, l[k] = d := ⟨_, rfl⟩
      have hlk := hide_ hd
      have hdm : d ∈ l := hd ▸ List.getElem_mem hlt
      have htk : l.take (k + 1) = l.take k ++ [d] := by rw [List.take_succ_eq_append_getElem hlt, hd]
      clear hge hd
      by_cases hdr : d.Right
      · have hall2 := hide_ (show ∀ t ∈ l.take (k + 1), t.Right from fun t ht => by
          rw [htk] at ht
          rcases List.mem_append.1 ht with ht | ht
          · exact hall.out t ht
          · rw [List.mem_singleton] at ht; subst ht; exact hdr)
        have hbig := hide_ (show (nuL ((l.length : Int) :: txNums (l.take k))).length + (nuL d.nums).length ≤ 140737488355328 from by
          have h1 := nuL_tx_len hall.out
          have h2 := nuL_one_len (n := l.length) (by omega)
          have h3 := nuL_len d.nums fun x hx => by have := hdr.rdb x hx; omega
          have e : (nuL ((l.length : Int) :: txNums (l.take k))) = nuL [(l.length : Int)] ++ nuL (txNums (l.take k)) := nuL_app [(l.length : Int)] _
          rw [e, List.length_append]
          simp [TxD.nums] at h3
          rw [List.length_take] at h1
          simp only [TxD.nums]
          omega)
        have hcat := hide_ (show nuL ((l.length : Int) :: txNums (l.take k)) ++ nuL d.nums = nuL ((l.length : Int) :: txNums (l.take (k + 1))) from by
          rw [htk, txNums_snoc, ← nuL_app]; rfl)
        replace hdr := hide_ hdr
        clear htk hall hdm
        go_wp2_with ((first
          | (refine w_ridx0 Try.elTx _ _ k TxR.stays rfl rfl (v := v) rfl rfl hl hX hlt ?_; rintro p row hrow hrl ⟨rfl, hraw⟩; rw [hlk.out] at hrow)
          | (refine w_pload Try.stTx _ rfl rfl rfl (hrow.ext hX) rfl ?_)
          | (refine w_alloc Try.stTx rfl rfl ?_; intro g7 w5 hg7 hx5 f7)
          | (refine w_astore Try.stTx (us := [.int .i64 d.id, .int .i64 d.fee]) _ _ rfl rfl rfl rfl rfl f7 rfl rfl d.one ?_; intro w6 hm6 f6; replace f7 := f6; have hx := hm6.after hx5 (fun i e => e ▸ hg7); replace o3 := o3.ext hx; replace hX := hX.trans hx; clear f6 hm6 hx5 hx hrow hrl hraw)
          | (refine w_aload Try.stTx _ rfl rfl rfl f7 rfl ?_)
          | (go_at_call 12; refine (TBytes_yes hdr.out _).mono ?_; rintro e w7 ⟨v8, rfl, o8, hx7⟩; have b8 := o8.byt; replace o3 := o3.ext hx7; replace hX := hX.trans hx7; clear o8 hx7 f7)
          | (refine appb _ _ rfl rfl rfl rfl o3 b8 hbig.out hX.size ?_; intro v9 w9 o9 hb9 hg9; replace hX := hX.trans' hb9; replace o3 := o9; clear b8 hb9 hg9 o9)
          | fail) <;> (try simp only [Act.put, List.setIfInBounds_toArray, List.set_cons_zero, List.set_cons_succ]))
        rw [hcat.out] at o3
        go_roundw
        case rel => exact ⟨k + 1, by go_num, by omega, hall2, o3, hX⟩
        case measure => simp [intOf]; omega
      · replace No := No fun h => hdr (h.right d hdm)
        replace hdr := hide_ hdr
        clear htk hall hdm
        go_wp2_with ((first
          | (refine w_ridx0 Try.elTx _ _ k TxR.stays rfl rfl (v := v) rfl rfl hl hX hlt ?_; rintro p row hrow hrl ⟨rfl, hraw⟩; rw [hlk.out] at hrow)
          | (refine w_pload Try.stTx _ rfl rfl rfl (hrow.ext hX) rfl ?_)
          | (refine w_alloc Try.stTx rfl rfl ?_; intro g7 w5 hg7 hx5 f7)
          | (refine w_astore Try.stTx (us := [.int .i64 d.id, .int .i64 d.fee]) _ _ rfl rfl rfl rfl rfl f7 rfl rfl d.one ?_; intro w6 hm6 f6; replace f7 := f6; have hx := hm6.after hx5 (fun i e => e ▸ hg7); replace o3 := o3.ext hx; replace hX := hX.trans hx; clear f6 hm6 hx5 hx hrow hrl hraw)
          | (refine w_aload Try.stTx _ rfl rfl rfl f7 rfl ?_)
          | (go_at_call 12; refine (TBytes_no hdr.out _).mono ?_; rintro e w7 ⟨v8, rfl, hx7⟩; replace hX := hX.trans hx7; clear hx7 f7)
          | fail) <;> (try simp only [Act.put, List.setIfInBounds_toArray, List.set_cons_zero, List.set_cons_succ]))
        go_ret2
        exact No.out _ _ rfl hX

/-! ### The list of bytes -/
def rdLs (b : List Nat) : Option (List TxD) := match rns 1 b with
  | some ([n], s) => if 0 ≤ n ∧ n ≤ 3 then (match rdAll n.toNat s with | some l => if twice l then none else some l | none => none) else none
  | _ => none
theorem rdLs_iff {b : List Nat} (hb : ∀ x ∈ b, x < 256) (l : List TxD) : rdLs b = some l ↔ IsLs b l := by
  constructor
  · intro h
    unfold rdLs at h
    split at h
    · rename_i n s hr
      split at h
      · rename_i hn
        split at h
        · rename_i l' hl
          split at h
          · cases h
          · rename_i ht
            cases h
            obtain ⟨h1, _, _⟩ := rns_was 1 b [n] s hb hr
            have hs : ∀ x ∈ s, x < 256 := fun x hx => hb x (by rw [h1]; exact List.mem_append_right _ hx)
            obtain ⟨h3, h4, h5⟩ := rdAll_some hs hl
            refine ⟨lsOk_of (by omega) (by simpa using ht) h4, ?_⟩
            rw [h1, h5, ← nuL_app]
            have e : n = (l.length : Int) := by omega
            rw [e]; rfl
        · cases h
      · cases h
    · cases h
  · rintro ⟨h1, h2⟩
    have hl := h1.len
    have e1 : b = nuL [(l.length : Int)] ++ nuL (txNums l) := by rw [h2, lsB, lsNums, ← nuL_app]; rfl
    have e2 : rns 1 b = some ([(l.length : Int)], nuL (txNums l)) := by rw [e1]; exact rns_yes (one_rdb (by omega)) _
    unfold rdLs
    rw [e2]
    simp only
    rw [if_pos (by omega), Int.toNat_natCast, rdAll_yes h1.right]
    simp only
    rw [twice_false.2 h1.ids]
    rfl
theorem rdLs_c1 {b : List Nat} (h : rns 1 b = none) : rdLs b = none := by unfold rdLs; rw [h]
theorem rdLs_c2 {b s : List Nat} {n : Int} (h : rns 1 b = some ([n], s)) (hn : ¬ (0 ≤ n ∧ n ≤ 3)) : rdLs b = none := by unfold rdLs; rw [h]; exact if_neg hn
theorem rdLs_c3 {b s : List Nat} {m : Nat} (h : rns 1 b = some ([(m : Int)], s)) (hm : m ≤ 3) : rdLs b = match rdAll m s with | some l => if twice l then none else some l | none => none := by
  unfold rdLs; rw [h]; exact if_pos (by omega)

set_option maxRecDepth 100000 in
set_option maxHeartbeats 1600000 in
theorem TReadList_any {w : World} {v : Value} {b : List Nat} (hb : ∀ x ∈ b, x < 256) (hlen : b.length ≤ 140737488355328) (hv : Byt w v b) :
    Calls Try.prog 21 #[v] w fun e w' => ∃ v', e = .returned (.tuple #[v', .int .i64 (oE (rdLs b) : Nat)]) ∧ Ext w w' ∧ OwnT w.heap.size w' v' ((rdLs b).getD []) := by
  refine calls_keep ?_
  have No : rdLs b = none → Hid (∀ e w', e = .returned (.tuple #[.slice none 0 0, .int .i64 61]) → Ext w w' → Keep (fun e w' => ∃ v', e = .returned (.tuple #[v', .int .i64 (oE (rdLs b) : Nat)]) ∧ Ext w w' ∧ OwnT w.heap.size w' v' ((rdLs b).getD [])) e w') := fun h => hide_ (fun e w' he hx => Keep.intro ⟨.slice none 0 0, by rw [he, h]; rfl, hx, by rw [h]; exact OwnT.nil _ _⟩)
  cases hr : rns 1 b with
  | none =>
    replace No := No (rdLs_c1 hr)
    replace hr := hide_ hr
    go_enter Try.func21, Try.ntmps21
    go_wp2_with (first
      | (go_at_call 29; refine (RNums_no (m := 1) (by omega) hr.out hb hlen hv).mono ?_; rintro e w1 ⟨v1, v2, rfl, hX⟩)
      | fail)
    go_ret2
    exact No.out _ _ rfl hX
  | some p =>
    obtain ⟨xs, s⟩ := p
    obtain ⟨hbs, hxl, hxi⟩ := rns_was 1 b xs s hb hr
    obtain ⟨n, rfl⟩ : ∃ n, xs = [n] := by
      match xs, hxl with
      | [n], _ => exact ⟨n, rfl⟩
    have hs : ∀ z ∈ s, z < 256 := fun z hz => hb z (by rw [hbs]; exact List.mem_append_right _ hz)
    have hslen : s.length ≤ 140737488355328 := by rw [hbs] at hlen; simp at hlen; omega
    clear hbs hxl hxi
    by_cases h0 : n < 0
    · have t1 : decide (n < 0) = true := by simpa using h0
      replace No := No (rdLs_c2 hr fun h => by omega)
      replace hr := hide_ hr
      clear h0
      go_enter Try.func21, Try.ntmps21
      go_wp2_with ((first
        | (go_at_call 29; refine (RNums_yes (m := 1) (by omega) hr.out hb hlen hv).mono ?_; rintro e w1 ⟨v1, v2, rfl, i1, b2, hX⟩)
        | (refine i_idx _ _ 0 rfl rfl (v := v1) rfl i1 rfl (by simp) ?_; intro ad had)
        | fail) <;> (try simp only [Act.put, List.setIfInBounds_toArray, List.set_cons_zero, List.set_cons_succ]))
      go_ret2
      exact No.out _ _ rfl hX
    have t1 : decide (n < 0) = false := by simpa using h0
    by_cases h3 : 3 < n
    · have t2 : decide (3 < n) = true := by simpa using h3
      replace No := No (rdLs_c2 hr fun h => by omega)
      replace hr := hide_ hr
      clear h0 h3
      go_enter Try.func21, Try.ntmps21
      go_wp2_with ((first
        | (go_at_call 29; refine (RNums_yes (m := 1) (by omega) hr.out hb hlen hv).mono ?_; rintro e w1 ⟨v1, v2, rfl, i1, b2, hX⟩)
        | (refine i_idx _ _ 0 rfl rfl (v := v1) rfl i1 rfl (by simp) ?_; intro ad had)
        | fail) <;> (try simp only [Act.put, List.setIfInBounds_toArray, List.set_cons_zero, List.set_cons_succ]))
      go_ret2
      exact No.out _ _ rfl hX
    obtain ⟨m, rfl⟩ := Int.eq_ofNat_of_zero_le (show 0 ≤ n by omega)
    have hm3 : m ≤ 3 := by omega
    have t2 : decide (3 < m) = false := by simp; omega
    have h3' := rdLs_c3 hr hm3
    replace hr := hide_ hr
    clear h0 h3 t1
    cases hra : rdAll m s with
    | none =>
      rw [hra] at h3'
      replace No := No h3'
      replace hra := hide_ hra
      clear h3'
      go_enter Try.func21, Try.ntmps21
      go_wp2_with ((first
        | (go_at_call 29; refine (RNums_yes (m := 1) (by omega) hr.out hb hlen hv).mono ?_; rintro e w1 ⟨v1, v2, rfl, i1, b2, hX⟩)
        | (refine i_idx _ _ 0 rfl rfl (v := v1) rfl i1 rfl (by simp) ?_; intro ad had)
        | (go_at_call 24; refine (readAll_any m (by omega) hs hslen b2).mono ?_; rintro e w2 ⟨v8, rfl, hx2, o8⟩; rw [hra.out] at o8 ⊢; replace o8 := o8.mono hX.size; replace hX := hX.trans hx2; clear hx2 b2)
        | fail) <;> (try simp only [Act.put, List.setIfInBounds_toArray, List.set_cons_zero, List.set_cons_succ]))
      go_ret2
      exact No.out _ _ rfl hX
    | some l =>
      rw [hra] at h3'
      replace hra := hide_ hra
      cases htw : twice l with
      | true =>
        simp only [htw, if_true] at h3'
        replace No := No h3'
        replace htw := hide_ htw
        clear h3'
        go_enter Try.func21, Try.ntmps21
        go_wp2_with ((first
          | (go_at_call 29; refine (RNums_yes (m := 1) (by omega) hr.out hb hlen hv).mono ?_; rintro e w1 ⟨v1, v2, rfl, i1, b2, hX⟩)
          | (refine i_idx _ _ 0 rfl rfl (v := v1) rfl i1 rfl (by simp) ?_; intro ad had)
          | (go_at_call 24; refine (readAll_any m (by omega) hs hslen b2).mono ?_; rintro e w2 ⟨v8, rfl, hx2, o8⟩; rw [hra.out] at o8 ⊢; replace o8 : OwnT _ w2 v8 l := o8; replace o8 := o8.mono hX.size; replace hX := hX.trans hx2; clear hx2 b2)
          | ((try refine w_yes _ _ _ rfl rfl rfl ?_); go_at_call 27; refine (anyTwice_any o8.recs).mono ?_; rintro e w3 ⟨rfl, hx3⟩; rw [htw.out]; replace o8 := o8.ext hx3; replace hX := hX.trans hx3; clear hx3)
          | fail) <;> (try simp only [Act.put, List.setIfInBounds_toArray, List.set_cons_zero, List.set_cons_succ]))
        go_ret2
        exact No.out _ _ rfl hX
      | false =>
        simp only [htw, Bool.false_eq_true, if_false] at h3'
        have hfin := hide_ h3'
        replace htw := hide_ htw
        clear h3'
        go_enter Try.func21, Try.ntmps21
        go_wp2_with ((first
          | (go_at_call 29; refine (RNums_yes (m := 1) (by omega) hr.out hb hlen hv).mono ?_; rintro e w1 ⟨v1, v2, rfl, i1, b2, hX⟩)
          | (refine i_idx _ _ 0 rfl rfl (v := v1) rfl i1 rfl (by simp) ?_; intro ad had)
          | (go_at_call 24; refine (readAll_any m (by omega) hs hslen b2).mono ?_; rintro e w2 ⟨v8, rfl, hx2, o8⟩; rw [hra.out] at o8 ⊢; replace o8 : OwnT _ w2 v8 l := o8; replace o8 := o8.mono hX.size; replace hX := hX.trans hx2; clear hx2 b2)
          | ((try refine w_yes _ _ _ rfl rfl rfl ?_); go_at_call 27; refine (anyTwice_any o8.recs).mono ?_; rintro e w3 ⟨rfl, hx3⟩; rw [htw.out]; replace o8 := o8.ext hx3; replace hX := hX.trans hx3; clear hx3)
          | fail) <;> (try simp only [Act.put, List.setIfInBounds_toArray, List.set_cons_zero, List.set_cons_succ]))
        go_ret2
        exact Keep.intro ⟨_, by rw [hfin.out]; rfl, hX, by rw [hfin.out]; exact o8⟩
end Go.Proofs.Ytabbgnlabiakoaa
