/- A pool of transactions: is one there; which are picked. -/
import Derived.Test.YtdacclcaopmalaaMemA
namespace Go.Proofs.Ytdacclcaopmalaa
set_option maxRecDepth 100000
open Go.RowKit

theorem recs_txrow {w : World} {p : Addr} {row : List Value} {d : TxD} (h1 : RowAt w p row) (h2 : TxR w row d) : RowAt w p [.int .i64 d.id, .int .i64 d.fee] := by
  obtain ⟨rfl, _⟩ := h2; exact h1
/-- &l[i] of transactions: the record itself. -/
theorem w_tidx {P : Program} {ops : Array Oper} {rest : List Oper} {o : Oper} {a : Act} {Q : Exit → Act → World → Prop} {w W0 : World} {t e : TypeId} {v : Value} {l : List TxD} (E : ElS P t e 2) (x y : Operand) (i : Nat) (hgd : o.guard = none) (ho : o.op = .indexAddr t x y) (hv : a.eval x = v) (hy : a.eval y = .int .i64 i)
    (h : Recs 2 TxR W0 v l) (he : Ext W0 w) {d : TxD} (hd : l[i]? = some d) (k : ∀ p, RowAt w p [.int .i64 d.id, .int .i64 d.fee] → wpList P ops Q rest (a.put o.dst (.pointer (some p))) w) : wpList P ops Q (o :: rest) a w := by
  have hi := (List.getElem?_eq_some_iff.1 hd).1
  have e : l[i] = d := (List.getElem?_eq_some_iff.1 hd).2
  refine w_ridx0 E x y i TxR.stays hgd ho hv hy h he hi ?_
  rintro pa row hrow _ hR
  rw [e] at hR
  exact k pa (recs_txrow (hrow.ext he) (TxR.stays _ _ _ _ hR he))

/-! ### The program's own functions that are handed to the library -/
set_option maxRecDepth 100000 in
set_option maxHeartbeats 1600000 in
theorem has1_any {w : World} {d : TxD} {g : Nat} {n : Int} (f0 : Fs w g [.int .i64 n]) :
    Calls Try.prog 69 #[.agg #[.int .i64 d.id, .int .i64 d.fee], .pointer (some ⟨g, 0, none⟩)] w fun e w' => e = .returned (.bool (d.id == n)) ∧ Ext w w' := by
  refine calls_keep ?_
  cases c : (d.id == n)
  all_goals go_enter Try.func69, Try.ntmps69
  all_goals go_wp2_with ((first
    | ((with_reducible refine at_box ?_); refine w_box _ [.int .i64 d.id, .int .i64 d.fee] rfl rfl rfl rfl ?_; intro g2 w1 hg2 hX f2; replace f0 := f0.ext hX)
    | ((with_reducible refine at_field ?_); refine w_field Try.stTx _ _ _ rfl rfl rfl (by omega) ?_)
    | ((with_reducible refine at_load ?_); refine w_fload (.tmp 4) rfl rfl rfl f2 rfl (agg_of (by kernel_rfl)) ?_)
    | ((with_reducible refine at_load ?_); refine w_fload (.tmp 1) rfl rfl rfl f0 rfl (agg_of (by kernel_rfl)) ?_)
    | fail) <;> (try simp only [Act.put, List.setIfInBounds_toArray, List.set_cons_zero, List.set_cons_succ]))
  all_goals go_ret
  all_goals exact Keep.intro ⟨rfl, hX⟩
set_option maxRecDepth 100000 in
set_option maxHeartbeats 1600000 in
theorem drop1_any {w : World} {d : TxD} {g : Nat} {vi : Value} {ids : List Int} (f0 : Fs w g [vi]) (hi0 : Ints w vi ids) :
    Calls Try.prog 46 #[.agg #[.int .i64 d.id, .int .i64 d.fee], .pointer (some ⟨g, 0, none⟩)] w fun e w' => e = .returned (.bool (decide (d.id ∈ ids))) ∧ Ext w w' := by
  refine calls_keep ?_
  obtain ⟨q, hq⟩ : ∃ q, decide (d.id ∈ ids) = q := ⟨_, rfl⟩
  have hq' := hide_ hq
  have hi := hide_ hi0
  rw [hq]
  clear hq hi0
  go_enter Try.func46, Try.ntmps46
  go_wp2_with ((first
    | (go_at_call 47; refine (Contains_any (n := d.id) (hi.out.ext hX)).mono ?_; rintro e w4 ⟨rfl, hx⟩; rw [hq'.out]; replace hX := hX.trans hx; clear hx)
    | ((with_reducible refine at_box ?_); refine w_box _ [.int .i64 d.id, .int .i64 d.fee] rfl rfl rfl rfl ?_; intro g2 w1 hg2 hX f2; replace f0 := f0.ext hX)
    | ((with_reducible refine at_field ?_); refine w_field Try.stTx _ _ _ rfl rfl rfl (by omega) ?_)
    | ((with_reducible refine at_load ?_); refine w_fload (.tmp 5) rfl rfl rfl f2 rfl (agg_of (by kernel_rfl)) ?_)
    | ((with_reducible refine at_load ?_); refine w_fload (.tmp 1) rfl rfl rfl f0 rfl (agg_of (by kernel_rfl)) ?_)
    | fail) <;> (try simp only [Act.put, List.setIfInBounds_toArray, List.set_cons_zero, List.set_cons_succ]))
  go_ret
  exact Keep.intro ⟨rfl, hX⟩

/-- The first one of which something holds. -/
def FirstQ (q : TxD → Bool) (l : List TxD) (r : Int) : Prop := (r = -1 ∧ ∀ x ∈ l, q x = false) ∨ ∃ (i : Nat) (x : TxD), r = (i : Int) ∧ l[i]? = some x ∧ q x = true ∧ ∀ y ∈ l.take i, q y = false
theorem FirstQ.any {q : TxD → Bool} {l : List TxD} {r : Int} (h : FirstQ q l r) : decide (0 ≤ r) = l.any q := by
  rcases h with ⟨rfl, h⟩ | ⟨i, x, rfl, hx, hq, _⟩
  · have e : l.any q = false := by rw [List.any_eq_false]; intro x hx; rw [h x hx]; simp
    rw [e]; rfl
  · rw [decide_eq_true (by omega)]
    exact (List.any_eq_true.2 ⟨x, List.mem_of_getElem? hx, hq⟩).symm

set_option maxRecDepth 100000 in
set_option maxHeartbeats 3200000 in
theorem IndexFunc_has {w : World} {v : Value} {l : List TxD} (h0 : Recs 2 TxR w v l) {g : Nat} {n : Int} (f00 : Fs w g [.int .i64 n]) :
    Calls Try.prog 72 #[v, .func (.func 69) #[] #[.pointer (some ⟨g, 0, none⟩)]] w fun e w' => ∃ r : Int, e = .returned (.int .i64 r) ∧ FirstQ (fun d => d.id == n) l r ∧ Ext w w' := by
  refine calls_keep ?_
  have hr := hide_ h0
  have hmax := h0.len_le
  unfold maxLen at hmax
  have f0 := hide_ f00
  clear h0 f00
  go_enter Try.func72, Try.ntmps72
  go_wp2_with ((first
    | ((with_reducible refine at_bi ?_); refine w_rlen Try.elTx _ rfl rfl rfl hr.out ?_)
    | fail) <;> (try simp only [Act.put, List.setIfInBounds_toArray, List.set_cons_zero, List.set_cons_succ]))
  go_loopw [8] (fun i wr => ∃ k : Nat, i = .int .i64 k ∧ k ≤ l.length ∧ Hid (∀ y ∈ l.take k, (fun d => d.id == n) y = false) ∧ Ext w wr) (fun i _ => l.length - (RowKit.intOf i).toNat)
  case atStart => exact ⟨0, rfl, Nat.zero_le _, hide_ (by simp), Ext.refl _⟩
  case round =>
    obtain ⟨k, rfl, hk, hnt, hX⟩ := hrel
    by_cases hge : l.length ≤ k
    · obtain rfl : k = l.length := by omega
      have t2 : decide (l.length < l.length) = false := by simp
      rw [List.take_length] at hnt
      clear hge
      go_wp2
      go_ret
      exact Keep.intro ⟨-1, rfl, .inl ⟨rfl, hnt.out⟩, hX⟩
    have hlt : k < l.length := by omega
    have t2 : decide (k < l.length) = true := by simpa using hlt
    obtain ⟨d, hd0⟩ : ∃ d, l[k]? = some d := ⟨_, List.getElem?_eq_getElem hlt⟩
    have e0 : l.take (k + 1) = l.take k ++ [d] := by rw [List.take_add_one, hd0]; rfl
    have hlt' := hide_ hlt
    have hkb : k < 9223372036854775807 := by omega
    have hd := hide_ hd0
    cases q1 : (d.id == n)
    · have hnt2 := hide_ (show ∀ y ∈ l.take (k + 1), (fun d => d.id == n) y = false from by
        rw [e0]
        intro y hy
        rcases List.mem_append.1 hy with hy | hy
        · exact hnt.out y hy
        · simp only [List.mem_singleton] at hy; subst hy; exact q1)
      have q1' := hide_ q1
      clear hge hlt hd0 e0 hnt q1
      go_wp2_with ((first
        | (go_at_call 69; refine (has1_any (d := d) (f0.out.ext hX)).mono ?_; rintro e w4 ⟨rfl, hx⟩; rw [q1'.out]; replace hX := hX.trans hx; clear hx)
        | ((with_reducible refine at_idx ?_); refine w_tidx Try.elTx _ _ k rfl rfl rfl rfl hr.out hX hd.out ?_; intro pa hrow; replace hrow := hide_ hrow)
        | ((with_reducible refine at_load ?_); refine w_pload Try.stTx _ rfl rfl rfl hrow.out rfl ?_)
        | fail) <;> (try simp only [Act.put, List.setIfInBounds_toArray, List.set_cons_zero, List.set_cons_succ]))
      go_roundw
      case rel => exact ⟨k + 1, by go_num, hlt'.out, hnt2, hX⟩
      case measure => have := hlt'.out; simp [RowKit.intOf]; omega
    · have q1' := hide_ q1
      clear hge hlt hd0 e0 q1
      go_wp2_with ((first
        | (go_at_call 69; refine (has1_any (d := d) (f0.out.ext hX)).mono ?_; rintro e w4 ⟨rfl, hx⟩; rw [q1'.out]; replace hX := hX.trans hx; clear hx)
        | ((with_reducible refine at_idx ?_); refine w_tidx Try.elTx _ _ k rfl rfl rfl rfl hr.out hX hd.out ?_; intro pa hrow; replace hrow := hide_ hrow)
        | ((with_reducible refine at_load ?_); refine w_pload Try.stTx _ rfl rfl rfl hrow.out rfl ?_)
        | fail) <;> (try simp only [Act.put, List.setIfInBounds_toArray, List.set_cons_zero, List.set_cons_succ]))
      go_ret
      exact Keep.intro ⟨(k : Nat), rfl, .inr ⟨k, d, rfl, hd.out, q1'.out, hnt.out⟩, hX⟩
set_option maxRecDepth 100000 in
set_option maxHeartbeats 3200000 in
theorem IndexFunc_drop {w : World} {v : Value} {l : List TxD} (h0 : Recs 2 TxR w v l) {g : Nat} {vi : Value} {ids : List Int} (f00 : Fs w g [vi]) (hi00 : Ints w vi ids) :
    Calls Try.prog 72 #[v, .func (.func 46) #[] #[.pointer (some ⟨g, 0, none⟩)]] w fun e w' => ∃ r : Int, e = .returned (.int .i64 r) ∧ FirstQ (fun d => decide (d.id ∈ ids)) l r ∧ Ext w w' := by
  refine calls_keep ?_
  have hr := hide_ h0
  have hmax := h0.len_le
  unfold maxLen at hmax
  have f0 := hide_ f00; have hi0 := hide_ hi00
  clear h0 f00 hi00
  go_enter Try.func72, Try.ntmps72
  go_wp2_with ((first
    | ((with_reducible refine at_bi ?_); refine w_rlen Try.elTx _ rfl rfl rfl hr.out ?_)
    | fail) <;> (try simp only [Act.put, List.setIfInBounds_toArray, List.set_cons_zero, List.set_cons_succ]))
  go_loopw [8] (fun i wr => ∃ k : Nat, i = .int .i64 k ∧ k ≤ l.length ∧ Hid (∀ y ∈ l.take k, (fun d => decide (d.id ∈ ids)) y = false) ∧ Ext w wr) (fun i _ => l.length - (RowKit.intOf i).toNat)
  case atStart => exact ⟨0, rfl, Nat.zero_le _, hide_ (by simp), Ext.refl _⟩
  case round =>
    obtain ⟨k, rfl, hk, hnt, hX⟩ := hrel
    by_cases hge : l.length ≤ k
    · obtain rfl : k = l.length := by omega
      have t2 : decide (l.length < l.length) = false := by simp
      rw [List.take_length] at hnt
      clear hge
      go_wp2
      go_ret
      exact Keep.intro ⟨-1, rfl, .inl ⟨rfl, hnt.out⟩, hX⟩
    have hlt : k < l.length := by omega
    have t2 : decide (k < l.length) = true := by simpa using hlt
    obtain ⟨d, hd0⟩ : ∃ d, l[k]? = some d := ⟨_, List.getElem?_eq_getElem hlt⟩
    have e0 : l.take (k + 1) = l.take k ++ [d] := by rw [List.take_add_one, hd0]; rfl
    have hlt' := hide_ hlt
    have hkb : k < 9223372036854775807 := by omega
    have hd := hide_ hd0
    cases q1 : decide (d.id ∈ ids)
    · have hnt2 := hide_ (show ∀ y ∈ l.take (k + 1), (fun d => decide (d.id ∈ ids)) y = false from by
        rw [e0]
        intro y hy
        rcases List.mem_append.1 hy with hy | hy
        · exact hnt.out y hy
        · simp only [List.mem_singleton] at hy; subst hy; exact q1)
      have q1' := hide_ q1
      clear hge hlt hd0 e0 hnt q1
      go_wp2_with ((first
        | (go_at_call 46; refine (drop1_any (d := d) (f0.out.ext hX) (hi0.out.ext hX)).mono ?_; rintro e w4 ⟨rfl, hx⟩; rw [q1'.out]; replace hX := hX.trans hx; clear hx)
        | ((with_reducible refine at_idx ?_); refine w_tidx Try.elTx _ _ k rfl rfl rfl rfl hr.out hX hd.out ?_; intro pa hrow; replace hrow := hide_ hrow)
        | ((with_reducible refine at_load ?_); refine w_pload Try.stTx _ rfl rfl rfl hrow.out rfl ?_)
        | fail) <;> (try simp only [Act.put, List.setIfInBounds_toArray, List.set_cons_zero, List.set_cons_succ]))
      go_roundw
      case rel => exact ⟨k + 1, by go_num, hlt'.out, hnt2, hX⟩
      case measure => have := hlt'.out; simp [RowKit.intOf]; omega
    · have q1' := hide_ q1
      clear hge hlt hd0 e0 q1
      go_wp2_with ((first
        | (go_at_call 46; refine (drop1_any (d := d) (f0.out.ext hX) (hi0.out.ext hX)).mono ?_; rintro e w4 ⟨rfl, hx⟩; rw [q1'.out]; replace hX := hX.trans hx; clear hx)
        | ((with_reducible refine at_idx ?_); refine w_tidx Try.elTx _ _ k rfl rfl rfl rfl hr.out hX hd.out ?_; intro pa hrow; replace hrow := hide_ hrow)
        | ((with_reducible refine at_load ?_); refine w_pload Try.stTx _ rfl rfl rfl hrow.out rfl ?_)
        | fail) <;> (try simp only [Act.put, List.setIfInBounds_toArray, List.set_cons_zero, List.set_cons_succ]))
      go_ret
      exact Keep.intro ⟨(k : Nat), rfl, .inr ⟨k, d, rfl, hd.out, q1'.out, hnt.out⟩, hX⟩
set_option maxRecDepth 100000 in
set_option maxHeartbeats 1600000 in
theorem ContainsFunc_has {w : World} {v : Value} {l : List TxD} (h0 : Recs 2 TxR w v l) {g : Nat} {n : Int} (f00 : Fs w g [.int .i64 n]) :
    Calls Try.prog 68 #[v, .func (.func 69) #[] #[.pointer (some ⟨g, 0, none⟩)]] w fun e w' => e = .returned (.bool (Mem.hasId l n)) ∧ Ext w w' := by
  refine calls_keep ?_
  have hr := hide_ h0
  have f0 := hide_ f00
  obtain ⟨q, hq⟩ : ∃ q, Mem.hasId l n = q := ⟨_, rfl⟩
  have hq' := hide_ hq
  have hX := Ext.refl w
  rw [hq]
  clear h0 f00 hq
  go_enter Try.func68, Try.ntmps68
  go_wp2_with (first
    | (go_at_call 72; refine (IndexFunc_has (hr.out.ext TxR.stays hX) (f0.out.ext hX)).mono ?_; rintro e w4 ⟨r, rfl, hF, hx⟩; have hqr : decide (0 ≤ r) = q := hF.any.trans hq'.out; clear hF; replace hX := hX.trans hx; clear hx)
    | fail)
  go_ret
  exact Keep.intro ⟨rfl, hX⟩
set_option maxRecDepth 100000 in
set_option maxHeartbeats 1600000 in
theorem has_any {F : Nat → Prop} {w : World} {p : Nat} {l : List TxD} {n : Int} (h0 : Pl F w p l) :
    Calls Try.prog 43 #[.pointer (some ⟨p, 0, none⟩), .int .i64 n] w fun e w' => e = .returned (.bool (Mem.hasId l n)) ∧ Ext w w' := by
  refine calls_keep ?_
  obtain ⟨v, f1, hr0⟩ := h0.at
  have hr := hide_ hr0
  clear h0 hr0
  go_enter Try.func43, Try.ntmps43
  go_wp2_with ((first
    | (go_at_call 68; refine (ContainsFunc_has (hr.out.ext TxR.stays hX) f3).mono ?_; rintro e w4 ⟨rfl, hx⟩; replace hX := hX.trans hx; clear hx)
    | ((with_reducible refine at_box ?_); refine w_box _ [.int .i64 n] rfl rfl rfl rfl ?_; intro g3 w1 hg3 hX f3; replace f1 := f1.ext hX)
    | ((with_reducible refine at_field ?_); refine w_field Try.stPool _ _ _ rfl rfl rfl (by omega) ?_)
    | ((with_reducible refine at_load ?_); refine w_fload _ rfl rfl rfl f1 rfl (agg_of (by kernel_rfl)) ?_)
    | fail) <;> (try simp only [Act.put, List.setIfInBounds_toArray, List.set_cons_zero, List.set_cons_succ]))
  go_ret
  exact Keep.intro ⟨rfl, hX⟩
end Go.Proofs.Ytdacclcaopmalaa
