/- Those that are waited for; the way to a block. -/
import Derived.Test.YtdacclcaopmalaaTrM
namespace Go.Proofs.Ytdacclcaopmalaa
set_option maxRecDepth 100000
open Go.RowKit

/-- A parent that is waited for. -/
def wantP (K V : List BlkD) (b : BlkD) : Bool := !TrS.has K b.parent && !TrS.has V b.parent
theorem missing_eq {K V : List BlkD} (hc : ∀ x ∈ V, TrS.ready K x = false) : TrS.missing ⟨K, V⟩ = rise ((V.filter (wantP K V)).map BlkD.parent) := by
  unfold TrS.missing
  congr 2
  apply List.filter_congr
  intro b hb
  have h := hc b hb
  have h2 : TrS.has K b.parent = false := by simp only [TrS.ready, Bool.or_eq_false_iff] at h; exact h.2
  simp [wantP, h, h2]

set_option maxRecDepth 100000 in
set_option maxHeartbeats 3200000 in
theorem Missing_any {G : Nat → Prop} {w : World} {p : Nat} {K V : List BlkD} (h0 : TrW G w p K V) (hc : ∀ x ∈ V, TrS.ready K x = false) :
    Calls Try.prog 30 #[.pointer (some ⟨p, 0, none⟩)] w fun e w' => ∃ v', e = .returned v' ∧ OwnI w.heap.size w' v' (TrS.missing ⟨K, V⟩) ∧ Ext w w' := by
  refine calls_keep ?_
  rw [missing_eq hc]
  clear hc
  have h0' := h0
  obtain ⟨X, g, v, h1, _⟩ := h0'
  have f1 := h1.obj
  have hfew := h1.fit.few
  have hraw := hide_ (show ∀ d ∈ V, I64 d.parent from fun d hd => by
    have := h1.fit.right d (List.mem_append_right _ hd)
    obtain ⟨us, k1, _, k3⟩ := h1.que
    obtain ⟨u, hu⟩ := mem_zip_of k1 hd
    exact (k3 _ hu).2.1.par)
  have hrW := h1.recs
  have hX0 := Ext.refl w
  replace h0 := hide_ h0
  clear h1
  go_enter Try.func30, Try.ntmps30
  go_wp2_with ((first
    | (go_at_call 28; refine (Waiting_any h0.out).mono ?_; rintro e W1 ⟨v4, rfl, o4, hx⟩; replace o4 := hide_ o4.ints; replace f1 := f1.ext hx; have hr := hide_ (hrW.ext (QR.stays X) hx); replace hX0 := hX0.trans hx; clear hx hrW)
    | ((with_reducible refine at_bi ?_); refine w_rlen Try.enBlk.elS _ rfl rfl rfl hr.out ?_)
    | ((with_reducible refine at_field ?_); (try refine w_yes _ _ _ rfl rfl rfl ?_); refine w_field Try.stTree _ _ _ rfl rfl rfl (by omega) ?_)
    | ((try refine w_yes _ _ _ rfl rfl rfl ?_); refine w_fieldO Try.stQue _ _ _ _ rfl rfl rfl (by omega) ?_)
    | ((with_reducible refine at_load ?_); (try refine w_yes _ _ _ rfl rfl rfl ?_); refine w_fload _ rfl rfl rfl f1 rfl (agg_of (by kernel_rfl)) ?_)
    | fail) <;> (try simp only [Act.put, List.setIfInBounds_toArray, List.set_cons_zero, List.set_cons_succ]))
  go_loopw [3, 15] (fun u3 i wr => ∃ k : Nat, i = .int .i64 k ∧ k ≤ V.length ∧ OwnI W1.heap.size wr u3 (((V.take k).filter (wantP K V)).map BlkD.parent) ∧ Ext W1 wr) (fun _ i _ => V.length - (RowKit.intOf i).toNat)
  case atStart => exact ⟨0, rfl, Nat.zero_le _, OwnI.nil _ _, Ext.refl _⟩
  case round =>
    obtain ⟨k, rfl, hk, ho, hX⟩ := hrel
    by_cases hge : V.length ≤ k
    · obtain rfl : k = V.length := by omega
      have t2 : decide (V.length < V.length) = false := by simp
      rw [List.take_length] at ho
      obtain ⟨l, hl⟩ : ∃ l, (V.filter (wantP K V)).map BlkD.parent = l := ⟨_, rfl⟩
      have hl17 := hide_ (show l.length ≤ 1000 from by
        rw [← hl, List.length_map]
        have := List.length_filter_le (wantP K V) V
        omega)
      rw [hl] at ho
      have hl2 := hide_ hl
      have hcs := hide_ (compact_sort l)
      have hnew := hide_ (fun k hk => (own_block_lt (g := k) ho hk).1)
      clear hge hl
      go_wp2_with (first
        | (go_at_call 60; refine (Sort_own ho hl17.out).mono ?_; rintro e w4 ⟨rfl, o1, hm⟩; replace hX := hm.after hX hnew.out; clear hm)
        | (go_at_call 61; refine (Compact_own o1).mono ?_; rintro e w5 ⟨v5, rfl, o5, hm⟩; rw [hcs.out] at o5; replace hX := hm.after hX hnew.out; clear hm)
        | fail)
      go_ret
      exact Keep.intro ⟨v5, rfl, by rw [hl2.out]; exact o5.mono hX0.size, hX0.trans hX⟩
    have hlt : k < V.length := by omega
    have t2 : decide (k < V.length) = true := by simpa using hlt
    obtain ⟨d, hd0⟩ : ∃ d, V[k]? = some d := ⟨_, List.getElem?_eq_getElem hlt⟩
    have hpar := hide_ (hraw.out d (List.mem_of_getElem? hd0))
    have e0 : V.take (k + 1) = V.take k ++ [d] := by rw [List.take_add_one, hd0]; rfl
    have hlt' := hide_ hlt
    have hd := hide_ hd0
    have q2' : decide (d.parent ∈ V.map BlkD.name) = TrS.has V d.parent := has_mem
    have hbig := hide_ (show ((((V.take k).filter (wantP K V)).map BlkD.parent).length + [d.parent].length) * 8 ≤ 140737488355328 from by
      rw [List.length_map]
      have := List.length_filter_le (wantP K V) (V.take k)
      simp at this ⊢; omega)
    have he := hide_ (show ((V.take (k + 1)).filter (wantP K V)).map BlkD.parent = ((V.take k).filter (wantP K V)).map BlkD.parent ++ (if wantP K V d then [d.parent] else []) from by
      rw [e0, List.filter_append, List.map_append]
      by_cases hw : wantP K V d = true <;> simp [hw])
    clear hge hlt hd0 e0
    cases q1 : TrS.has K d.parent
    · have q1' := q1
      cases q2 : TrS.has V d.parent
      · rw [q2] at q2'
        have hw : wantP K V d = true := by simp [wantP, q1, q2]
        rw [hw, if_pos rfl] at he
        clear hw q1 q2
        go_wp2_with ((first
          | (go_at_call 50; refine (Has_any (h0.out.ext (hX0.trans hX)) hpar.out).mono ?_; rintro e w4 ⟨rfl, hx⟩; rw [q1']; replace ho := own_ext ho hx; replace f2 := f2.ext hx; replace hX := hX.trans hx; clear hx)
          | (go_at_call 47; refine (Contains_any (n := d.parent) (o4.out.ext hX)).mono ?_; rintro e w4 ⟨rfl, hx⟩; rw [q2']; replace ho := own_ext ho hx; replace f2 := f2.ext hx; replace hX := hX.trans hx; clear hx)
          | (refine w_qidx Try.enBlk.elS _ _ k rfl rfl rfl rfl hr.out hX hd.out ?_; intro pa u hrow htx; have hone := blk_one (a := d.slot) (b := d.miner) (c := d.var) (d := d.parent) htx.1.one'; replace hrow := hide_ hrow; clear htx)
          | ((with_reducible refine at_load ?_); refine w_pload Try.stBlk _ rfl rfl rfl hrow.out rfl ?_)
          | ((with_reducible refine at_alloc ?_); refine w_alloc Try.stBlk rfl rfl ?_; intro g2 w2 hg2 hx2 f2)
          | ((with_reducible refine at_store ?_); refine w_astore Try.stBlk _ _ (us := bRow d u) rfl rfl rfl rfl rfl f2 rfl rfl hone ?_; intro w3 hm3 f3; replace f2 : Fs w3 g2 (bRow d u) := f3; replace hx2 := hm3.after hx2 (fun i hi => by subst hi; exact hg2); replace hX := hX.trans hx2; replace ho := own_ext ho hx2; clear hm3 f3 hx2 hrow)
          | ((with_reducible refine at_field ?_); (try refine w_yes _ _ _ rfl rfl rfl ?_); refine w_field Try.stBlk _ _ _ rfl rfl rfl (by omega) ?_)
          | ((with_reducible refine at_load ?_); (try refine w_yes _ _ _ rfl rfl rfl ?_); refine w_fload _ rfl rfl rfl f2 rfl (agg_of (by kernel_rfl)) ?_)
          | ((with_reducible refine at_lit ?_); refine w_new Try.elI (i64s [d.parent]) rfl rfl rfl (i64s_cells _) rfl (by omega) ?_; intro v2 w5 hx3 o2; replace o2 : OwnI _ w5 v2 [d.parent] := o2; replace ho := own_ext ho hx3; replace hX := hX.trans hx3; clear hx3 f2)
          | ((with_reducible refine at_bi ?_); refine appi _ _ rfl rfl rfl rfl ho o2.ints hbig.out hX.size ?_; intro v9 w9 o9 hb9 hg9 hg9'; replace hX := hX.trans' hb9; replace ho := o9; clear hb9 hg9 hg9' o9 o2)
          | fail) <;> (try simp only [Act.put, List.setIfInBounds_toArray, List.set_cons_zero, List.set_cons_succ]))
        go_roundw
        case rel => exact ⟨k + 1, by go_num, hlt'.out, by rw [he.out]; exact ho, hX⟩
        case measure => have := hlt'.out; simp [RowKit.intOf]; omega
      · rw [q2] at q2'
        have hw : wantP K V d = false := by simp [wantP, q1, q2]
        rw [hw, if_neg (by simp), List.append_nil] at he
        clear hw q1 q2
        go_wp2_with ((first
          | (go_at_call 50; refine (Has_any (h0.out.ext (hX0.trans hX)) hpar.out).mono ?_; rintro e w4 ⟨rfl, hx⟩; rw [q1']; replace ho := own_ext ho hx; replace f2 := f2.ext hx; replace hX := hX.trans hx; clear hx)
          | (go_at_call 47; refine (Contains_any (n := d.parent) (o4.out.ext hX)).mono ?_; rintro e w4 ⟨rfl, hx⟩; rw [q2']; replace ho := own_ext ho hx; replace f2 := f2.ext hx; replace hX := hX.trans hx; clear hx)
          | (refine w_qidx Try.enBlk.elS _ _ k rfl rfl rfl rfl hr.out hX hd.out ?_; intro pa u hrow htx; have hone := blk_one (a := d.slot) (b := d.miner) (c := d.var) (d := d.parent) htx.1.one'; replace hrow := hide_ hrow; clear htx)
          | ((with_reducible refine at_load ?_); refine w_pload Try.stBlk _ rfl rfl rfl hrow.out rfl ?_)
          | ((with_reducible refine at_alloc ?_); refine w_alloc Try.stBlk rfl rfl ?_; intro g2 w2 hg2 hx2 f2)
          | ((with_reducible refine at_store ?_); refine w_astore Try.stBlk _ _ (us := bRow d u) rfl rfl rfl rfl rfl f2 rfl rfl hone ?_; intro w3 hm3 f3; replace f2 : Fs w3 g2 (bRow d u) := f3; replace hx2 := hm3.after hx2 (fun i hi => by subst hi; exact hg2); replace hX := hX.trans hx2; replace ho := own_ext ho hx2; clear hm3 f3 hx2 hrow)
          | ((with_reducible refine at_field ?_); (try refine w_yes _ _ _ rfl rfl rfl ?_); refine w_field Try.stBlk _ _ _ rfl rfl rfl (by omega) ?_)
          | ((with_reducible refine at_load ?_); (try refine w_yes _ _ _ rfl rfl rfl ?_); refine w_fload _ rfl rfl rfl f2 rfl (agg_of (by kernel_rfl)) ?_)
          | fail) <;> (try simp only [Act.put, List.setIfInBounds_toArray, List.set_cons_zero, List.set_cons_succ]))
        go_roundw
        case rel => exact ⟨k + 1, by go_num, hlt'.out, by rw [he.out]; exact ho, hX⟩
        case measure => have := hlt'.out; simp [RowKit.intOf]; omega
    · have q1' := q1
      have hw : wantP K V d = false := by simp [wantP, q1]
      rw [hw, if_neg (by simp), List.append_nil] at he
      clear hw q1
      go_wp2_with ((first
        | (go_at_call 50; refine (Has_any (h0.out.ext (hX0.trans hX)) hpar.out).mono ?_; rintro e w4 ⟨rfl, hx⟩; rw [q1']; replace ho := own_ext ho hx; replace f2 := f2.ext hx; replace hX := hX.trans hx; clear hx)
        | (refine w_qidx Try.enBlk.elS _ _ k rfl rfl rfl rfl hr.out hX hd.out ?_; intro pa u hrow htx; have hone := blk_one (a := d.slot) (b := d.miner) (c := d.var) (d := d.parent) htx.1.one'; replace hrow := hide_ hrow; clear htx)
        | ((with_reducible refine at_load ?_); refine w_pload Try.stBlk _ rfl rfl rfl hrow.out rfl ?_)
        | ((with_reducible refine at_alloc ?_); refine w_alloc Try.stBlk rfl rfl ?_; intro g2 w2 hg2 hx2 f2)
        | ((with_reducible refine at_store ?_); refine w_astore Try.stBlk _ _ (us := bRow d u) rfl rfl rfl rfl rfl f2 rfl rfl hone ?_; intro w3 hm3 f3; replace f2 : Fs w3 g2 (bRow d u) := f3; replace hx2 := hm3.after hx2 (fun i hi => by subst hi; exact hg2); replace hX := hX.trans hx2; replace ho := own_ext ho hx2; clear hm3 f3 hx2 hrow)
        | ((with_reducible refine at_field ?_); (try refine w_yes _ _ _ rfl rfl rfl ?_); refine w_field Try.stBlk _ _ _ rfl rfl rfl (by omega) ?_)
        | ((with_reducible refine at_load ?_); (try refine w_yes _ _ _ rfl rfl rfl ?_); refine w_fload _ rfl rfl rfl f2 rfl (agg_of (by kernel_rfl)) ?_)
        | fail) <;> (try simp only [Act.put, List.setIfInBounds_toArray, List.set_cons_zero, List.set_cons_succ]))
      go_roundw
      case rel => exact ⟨k + 1, by go_num, hlt'.out, by rw [he.out]; exact ho, hX⟩
      case measure => have := hlt'.out; simp [RowKit.intOf]; omega
end Go.Proofs.Ytdacclcaopmalaa
