/- A pool of transactions: which are picked; and the document's pool. -/
import Derived.Test.YtdacclcaopmalaaMemD
namespace Go.Proofs.Ytdacclcaopmalaa
set_option maxRecDepth 100000
open Go.RowKit

theorem pick_all {l : List TxD} {ids : List Int} : Mem.pick l (l.length : Int) ids = Mem.drop l ids := by
  unfold Mem.pick
  have : (Mem.drop l ids).length ≤ l.length := List.length_filter_le _ _
  rw [List.take_of_length_le (by omega)]
theorem pick_len_le {l : List TxD} {many : Int} {skip : List Int} : (Mem.pick l many skip).length ≤ l.length := by
  unfold Mem.pick
  have : (Mem.drop l skip).length ≤ l.length := List.length_filter_le _ _
  rw [List.length_take]; omega
theorem pick_snoc {l : List TxD} {many : Int} {skip : List Int} {d : TxD} {k : Nat} (hd : l[k]? = some d) :
    Mem.pick (l.take (k + 1)) many skip = if decide (d.id ∈ skip) = false ∧ ((Mem.pick (l.take k) many skip).length : Int) < many then Mem.pick (l.take k) many skip ++ [d] else Mem.pick (l.take k) many skip := by
  unfold Mem.pick
  rw [drop_snoc hd]
  generalize Mem.drop (l.take k) skip = X
  by_cases hq : decide (d.id ∈ skip) = true
  · rw [if_pos hq, if_neg (fun h => by rw [hq] at h; cases h.1)]
  · have hq' : decide (d.id ∈ skip) = false := by simpa using hq
    rw [if_neg hq]
    by_cases hl : X.length < many.toNat
    · rw [if_pos ⟨hq', by rw [List.length_take]; omega⟩, List.take_of_length_le (i := many.toNat) (l := X ++ [d]) (by simp; omega), List.take_of_length_le (i := many.toNat) (l := X) (by omega)]
    · rw [if_neg (fun h => by have := h.2; rw [List.length_take] at this; omega), List.take_append_of_le_length (by omega)]
/-- While it isn't over: all that aren't skipped. -/
theorem pick_stop {l : List TxD} {many : Int} {skip : List Int} {k : Nat} (h : many ≤ ((Mem.pick (l.take k) many skip).length : Int)) (_hk : k ≤ l.length) : Mem.pick l many skip = Mem.pick (l.take k) many skip := by
  have e : Mem.drop l skip = Mem.drop (l.take k) skip ++ Mem.drop (l.drop k) skip := by
    conv => lhs; rw [← List.take_append_drop k l]
    unfold Mem.drop; rw [List.filter_append]
  unfold Mem.pick at h ⊢
  rw [List.length_take] at h
  rw [e, List.take_append_of_le_length (by omega)]

set_option maxRecDepth 100000 in
set_option maxHeartbeats 3200000 in
theorem PPick_any {F : Nat → Prop} {w : World} {p : Nat} {l : List TxD} {many : Int} {vi : Value} {skip : List Int} (h0 : Pl F w p l) (hn : l.length ≤ 16) (hi00 : Ints w vi skip) :
    Calls Try.prog 18 #[.pointer (some ⟨p, 0, none⟩), .int .i64 many, vi] w fun e w' => ∃ v', e = .returned v' ∧ OwnT w.heap.size w' v' (Mem.pick l many skip) ∧ Ext w w' := by
  refine calls_keep ?_
  have hraws := hide_ h0.raw
  obtain ⟨v, f1, hr0⟩ := h0.at
  have hr := hide_ hr0
  have hi0 := hide_ hi00
  clear h0 hr0 hi00
  go_enter Try.func18, Try.ntmps18
  go_wp2_with ((first
    | ((with_reducible refine at_field ?_); refine w_field Try.stPool _ _ _ rfl rfl rfl (by omega) ?_)
    | ((with_reducible refine at_load ?_); refine w_fload _ rfl rfl rfl f1 rfl (agg_of (by kernel_rfl)) ?_)
    | ((with_reducible refine at_bi ?_); refine w_rlen Try.elTx _ rfl rfl rfl hr.out ?_)
    | fail) <;> (try simp only [Act.put, List.setIfInBounds_toArray, List.set_cons_zero, List.set_cons_succ]))
  go_loopw [7, 15] (fun u7 i wr => ∃ k : Nat, i = .int .i64 k ∧ k ≤ l.length ∧ OwnT w.heap.size wr u7 (Mem.pick (l.take k) many skip) ∧ Ext w wr) (fun _ i _ => l.length - (RowKit.intOf i).toNat)
  case atStart => exact ⟨0, rfl, Nat.zero_le _, by simp [Mem.pick, Mem.drop]; exact OwnT.nil _ _, Ext.refl _⟩
  case round =>
    obtain ⟨k, rfl, hk, ho, hXr⟩ := hrel
    by_cases hge : l.length ≤ k
    · obtain rfl : k = l.length := by omega
      have t2 : decide (l.length < l.length) = false := by simp
      rw [List.take_length] at ho
      replace ho := hide_ ho
      go_wp2
      go_ret
      exact Keep.intro ⟨_, rfl, ho.out, hXr⟩
    have hlt : k < l.length := by omega
    have t2 : decide (k < l.length) = true := by simpa using hlt
    obtain ⟨d, hd0⟩ : ∃ d, l[k]? = some d := ⟨_, List.getElem?_eq_getElem hlt⟩
    have hdraw := hide_ (hraws.out d (List.mem_of_getElem? hd0))
    have hsn := pick_snoc (many := many) (skip := skip) hd0
    have hpl := pick_len_le (l := l.take k) (many := many) (skip := skip)
    rw [List.length_take] at hpl
    have hstop := hide_ (fun h => pick_stop (l := l) (many := many) (skip := skip) (k := k) h hk)
    obtain ⟨X, hX0⟩ : ∃ X, Mem.pick (l.take k) many skip = X := ⟨_, rfl⟩
    rw [hX0] at ho hsn hpl hstop
    have hbig := hide_ (show ((X.map TxD.row).length + ([d.row] : List (List Value)).length) * 16 ≤ 140737488355328 from by simp; omega)
    have hlt' := hide_ hlt
    have hd := hide_ hd0
    by_cases hb : many ≤ (X.length : Int)
    · have t3 : decide (many ≤ (X.length : Int)) = true := decide_eq_true hb
      have hfin := hide_ (hstop.out hb)
      clear hge hlt hd0 hsn hX0 hb hstop
      go_wp2_with ((first
        | ((with_reducible refine at_idx ?_); refine w_tidx Try.elTx _ _ k rfl rfl rfl rfl hr.out hXr hd.out ?_; intro pa hrow; replace hrow := hide_ hrow)
        | ((with_reducible refine at_load ?_); refine w_pload Try.stTx _ rfl rfl rfl hrow.out rfl ?_)
        | ((with_reducible refine at_alloc ?_); refine w_alloc Try.stTx rfl rfl ?_; intro g9 w2 hg9 hx2 f9)
        | ((with_reducible refine at_store ?_); refine w_astore Try.stTx _ _ (us := [.int .i64 d.id, .int .i64 d.fee]) rfl rfl rfl rfl rfl f9 rfl rfl (by intro u hu; simp at hu; rcases hu with rfl | rfl <;> rfl) ?_; intro w3 hm3 f3; replace hx2 := hm3.after hx2 (fun i hi => by subst hi; exact hg9); replace f9 := f3; replace ho := ho.ext hx2; replace hXr := hXr.trans hx2; clear hm3 f3 hx2 hg9)
        | ((with_reducible refine at_bi ?_); refine w_rlen Try.elTx _ rfl rfl rfl ho.recs ?_)
        | fail) <;> (try simp only [Act.put, List.setIfInBounds_toArray, List.set_cons_zero, List.set_cons_succ]))
      go_ret
      exact Keep.intro ⟨_, rfl, by rw [hfin.out]; exact ho, hXr⟩
    have t3 : decide (many ≤ (X.length : Int)) = false := decide_eq_false hb
    obtain ⟨q, hq⟩ : ∃ q, decide (d.id ∈ skip) = q := ⟨_, rfl⟩
    rw [hq] at hsn
    have hq' := hide_ hq
    have hk16 : k ≤ 16 := by omega
    cases q
    · rw [if_pos ⟨rfl, by omega⟩] at hsn
      have hsn' := hide_ hsn
      clear hge hlt hd0 hsn hX0 hb hstop hq
      go_wp2_with ((first
        | (go_at_call 47; refine (Contains_any (n := d.id) (hi0.out.ext hXr)).mono ?_; rintro e w4 ⟨rfl, hx⟩; rw [hq'.out]; replace f9 := f9.ext hx; replace ho := ho.ext hx; replace hXr := hXr.trans hx; clear hx)
        | ((with_reducible refine at_idx ?_); refine w_tidx Try.elTx _ _ k rfl rfl rfl rfl hr.out hXr hd.out ?_; intro pa hrow; replace hrow := hide_ hrow)
        | ((with_reducible refine at_load ?_); refine w_pload Try.stTx _ rfl rfl rfl hrow.out rfl ?_)
        | ((with_reducible refine at_alloc ?_); refine w_alloc Try.stTx rfl rfl ?_; intro g9 w2 hg9 hx2 f9)
        | ((with_reducible refine at_store ?_); refine w_astore Try.stTx _ _ (us := [.int .i64 d.id, .int .i64 d.fee]) rfl rfl rfl rfl rfl f9 rfl rfl (by intro u hu; simp at hu; rcases hu with rfl | rfl <;> rfl) ?_; intro w3 hm3 f3; replace hx2 := hm3.after hx2 (fun i hi => by subst hi; exact hg9); replace f9 := f3; replace ho := ho.ext hx2; replace hXr := hXr.trans hx2; clear hm3 f3 hx2 hg9)
        | ((with_reducible refine at_bi ?_); refine w_rlen Try.elTx _ rfl rfl rfl ho.recs ?_)
        | ((with_reducible refine at_field ?_); refine w_field Try.stTx _ _ _ rfl rfl rfl (by omega) ?_)
        | ((with_reducible refine at_load ?_); refine w_aload Try.stTx (.tmp 9) rfl rfl rfl f9 rfl ?_)
        | ((with_reducible refine at_load ?_); refine w_fload _ rfl rfl rfl f9 rfl (agg_of (by kernel_rfl)) ?_)
        | ((with_reducible refine at_lit ?_); refine w_nnew Try.elTxN [d.row] rfl rfl rfl (by simp [TxD.row]) rfl (by omega) ?_; intro vl w6 B hB1 hB2 hx6 hn6; have hl6 := hn6.slS; replace ho := ho.ext hx6; replace hXr := hXr.trans hx6; clear f9 hn6 hB1 hB2 hx6)
        | ((with_reducible refine at_bi ?_); refine w_napp Try.elTxN _ _ rfl rfl rfl rfl ho.own hl6 (by simp) (by intro y hy; simp at hy; subst hy; exact d.one) hbig.out ?_; intro v9 w7 hm7 hn7; have hO2 := ho.app hXr.size hdraw.out hn7; replace hXr := hm7.after hXr ho.new; replace ho := hO2; clear hO2 hm7 hn7 hl6)
        | fail) <;> (try simp only [Act.put, List.setIfInBounds_toArray, List.set_cons_zero, List.set_cons_succ]))
      go_roundw
      case rel => exact ⟨k + 1, by go_num, hlt'.out, by rw [hsn'.out]; exact ho, hXr⟩
      case measure => have := hlt'.out; simp [RowKit.intOf]; omega
    · rw [if_neg (fun h => by cases h.1)] at hsn
      have hsn' := hide_ hsn
      clear hge hlt hd0 hsn hX0 hb hstop hq
      go_wp2_with ((first
        | (go_at_call 47; refine (Contains_any (n := d.id) (hi0.out.ext hXr)).mono ?_; rintro e w4 ⟨rfl, hx⟩; rw [hq'.out]; replace f9 := f9.ext hx; replace ho := ho.ext hx; replace hXr := hXr.trans hx; clear hx)
        | ((with_reducible refine at_idx ?_); refine w_tidx Try.elTx _ _ k rfl rfl rfl rfl hr.out hXr hd.out ?_; intro pa hrow; replace hrow := hide_ hrow)
        | ((with_reducible refine at_load ?_); refine w_pload Try.stTx _ rfl rfl rfl hrow.out rfl ?_)
        | ((with_reducible refine at_alloc ?_); refine w_alloc Try.stTx rfl rfl ?_; intro g9 w2 hg9 hx2 f9)
        | ((with_reducible refine at_store ?_); refine w_astore Try.stTx _ _ (us := [.int .i64 d.id, .int .i64 d.fee]) rfl rfl rfl rfl rfl f9 rfl rfl (by intro u hu; simp at hu; rcases hu with rfl | rfl <;> rfl) ?_; intro w3 hm3 f3; replace hx2 := hm3.after hx2 (fun i hi => by subst hi; exact hg9); replace f9 := f3; replace ho := ho.ext hx2; replace hXr := hXr.trans hx2; clear hm3 f3 hx2 hg9)
        | ((with_reducible refine at_bi ?_); refine w_rlen Try.elTx _ rfl rfl rfl ho.recs ?_)
        | ((with_reducible refine at_field ?_); refine w_field Try.stTx _ _ _ rfl rfl rfl (by omega) ?_)
        | ((with_reducible refine at_load ?_); refine w_fload _ rfl rfl rfl f9 rfl (agg_of (by kernel_rfl)) ?_)
        | fail) <;> (try simp only [Act.put, List.setIfInBounds_toArray, List.set_cons_zero, List.set_cons_succ]))
      go_roundw
      case rel => exact ⟨k + 1, by go_num, hlt'.out, by rw [hsn'.out]; exact ho, hXr⟩
      case measure => have := hlt'.out; simp [RowKit.intOf]; omega
end Go.Proofs.Ytdacclcaopmalaa
