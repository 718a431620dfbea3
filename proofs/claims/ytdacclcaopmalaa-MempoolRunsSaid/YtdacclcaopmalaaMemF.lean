/- The document's pool: which are picked, which are dropped. -/
import Derived.Test.YtdacclcaopmalaaMemE
namespace Go.Proofs.Ytdacclcaopmalaa
set_option maxRecDepth 100000
open Go.RowKit

theorem in_take {l : List Int} {m : Nat} {x n : Int} (hx : l[m]? = some x) : decide (n ∈ l.take (m + 1)) = (decide (n ∈ l.take m) || (x == n)) := by
  have e : (x == n) = decide (n = x) := by
    by_cases h : n = x
    · subst h; simp
    · rw [decide_eq_false h]; simpa using fun e : x = n => h e.symm
  rw [List.take_add_one, hx, e, ← Bool.decide_or]
  simp

set_option maxRecDepth 100000 in
set_option maxHeartbeats 6400000 in
theorem refPick_any {w : World} {v : Value} {l : List TxD} {many : Int} {vi : Value} {skip : List Int} (h0 : Recs 2 TxR w v l) (hn : l.length ≤ 16) (hi00 : Ints w vi skip) :
    Calls Try.prog 19 #[v, .int .i64 many, vi] w fun e w' => ∃ v', e = .returned v' ∧ OwnT w.heap.size w' v' (Mem.pick l many skip) ∧ Ext w w' := by
  refine calls_keep ?_
  have hraws := hide_ (recs_rows h0).2
  have hr := hide_ h0
  have hi0 := hide_ hi00
  have hsmax := hi00.len_le
  unfold maxLen at hsmax
  clear h0 hi00
  go_enter Try.func19, Try.ntmps19
  go_wp2_with ((first
    | ((with_reducible refine at_lit ?_); refine w_nnew Try.elTxN [] rfl rfl rfl (by simp) rfl (by omega) ?_; intro v0 w3 B hB1 hB2 hx3 hn0)
    | ((with_reducible refine at_bi ?_); refine w_rlen Try.elTx _ rfl rfl rfl (hr.out.ext TxR.stays hx3) ?_)
    | fail) <;> (try simp only [Act.put, List.setIfInBounds_toArray, List.set_cons_zero, List.set_cons_succ]))
  go_loopw [7, 16] (fun u7 i wr => ∃ k : Nat, i = .int .i64 k ∧ k ≤ l.length ∧ OwnT w.heap.size wr u7 (Mem.pick (l.take k) many skip) ∧ Ext w wr) (fun _ i _ => l.length - (RowKit.intOf i).toNat)
  case atStart => exact ⟨0, rfl, Nat.zero_le _, by simp only [Mem.pick, Mem.drop, List.take_zero, List.filter_nil, List.take_nil]; exact OwnT.of (l := []) hn0 (by simp) (fun k h => Nat.le_trans hB1 h.1), hx3⟩
  case round =>
    clear hx3 hn0
    obtain ⟨k, rfl, hk, ho, hXr⟩ := hrel
    by_cases hge : l.length ≤ k
    · obtain rfl : k = l.length := by omega
      have t2 : decide (l.length < l.length) = false := by simp
      rw [List.take_length] at ho
      replace ho := hide_ ho
      go_wp2
      go_ret
      exact Keep.intro ⟨_, rfl, ho.out, hXr⟩
    have hlt : k < l.length := by omega
    have t2 : decide (k < l.length) = true := by simpa using hlt
    obtain ⟨d, hd0⟩ : ∃ d, l[k]? = some d := ⟨_, List.getElem?_eq_getElem hlt⟩
    have hdraw := hide_ (hraws.out d (List.mem_of_getElem? hd0))
    have hsn := pick_snoc (many := many) (skip := skip) hd0
    have hpl := pick_len_le (l := l.take k) (many := many) (skip := skip)
    rw [List.length_take] at hpl
    obtain ⟨X, hX0⟩ : ∃ X, Mem.pick (l.take k) many skip = X := ⟨_, rfl⟩
    rw [hX0] at ho hsn hpl
    have hbig := hide_ (show ((X.map TxD.row).length + ([d.row] : List (List Value)).length) * 16 ≤ 140737488355328 from by simp; omega)
    have hlt' := hide_ hlt
    have hd := hide_ hd0
    have hk16 : k ≤ 16 := by omega
    replace hsn := hide_ hsn
    clear hge hlt hd0 hX0
    go_wp2_with ((first
      | ((with_reducible refine at_idx ?_); refine w_tidx Try.elTx _ _ k rfl rfl rfl rfl hr.out hXr hd.out ?_; intro pa hrow; replace hrow := hide_ hrow)
      | ((with_reducible refine at_load ?_); refine w_pload Try.stTx _ rfl rfl rfl hrow.out rfl ?_)
      | ((with_reducible refine at_alloc ?_); refine w_alloc Try.stTx rfl rfl ?_; intro g9 w2 hg9 hx2 f9)
      | ((with_reducible refine at_store ?_); refine w_astore Try.stTx _ _ (us := [.int .i64 d.id, .int .i64 d.fee]) rfl rfl rfl rfl rfl f9 rfl rfl (by intro u hu; simp at hu; rcases hu with rfl | rfl <;> rfl) ?_; intro w3 hm3 f3; replace hx2 := hm3.after hx2 (fun i hi => by subst hi; exact hg9); replace f9 := f3; replace ho := ho.ext hx2; replace hXr := hXr.trans hx2; clear hm3 f3 hx2 hg9)
      | ((with_reducible refine at_bi ?_); refine i_len _ rfl rfl (v := vi) rfl (hi0.out.ext hXr) ?_)
      | fail) <;> (try simp only [Act.put, List.setIfInBounds_toArray, List.set_cons_zero, List.set_cons_succ]))
    go_loopw [10, 22] (fun y j wr => ∃ m : Nat, j = .int .i64 m ∧ m ≤ skip.length ∧ y = .bool (decide (d.id ∈ skip.take m)) ∧ wr = w3) (fun _ j _ => skip.length - (RowKit.intOf j).toNat)
    case atStart => exact ⟨0, rfl, Nat.zero_le _, by simp, rfl⟩
    case round =>
      obtain ⟨m, rfl, hm, rfl, rfl⟩ := hrel
      by_cases hgm : skip.length ≤ m
      rotate_left
      · have hlm : m < skip.length := by omega
        have t3 : decide (m < skip.length) = true := by simpa using hlm
        obtain ⟨x, hx0⟩ : ∃ x, skip[m] = x := ⟨_, rfl⟩
        have hin := in_take (n := d.id) (show skip[m]? = some x from by rw [List.getElem?_eq_getElem hlm, hx0])
        have hx := hide_ hx0
        have hlm' := hide_ hlm
        have hmb : m < 9223372036854775807 := by omega
        obtain ⟨y, hy⟩ : ∃ y, decide (d.id ∈ skip.take m) = y := ⟨_, rfl⟩
        rw [hy] at hin ⊢
        clear hgm hx0 hy
        cases y
        · cases c : (x == d.id)
          all_goals
            rw [c] at hin
            have hin' := hide_ hin
            clear hin
            go_wp2_with ((first
              | ((with_reducible refine at_idx ?_); refine i_idx _ _ m rfl rfl rfl (hi0.out.ext hXr) rfl hlm'.out ?_; intro ad had; rw [hx.out] at had)
              | ((with_reducible refine at_field ?_); (try refine w_yes _ _ _ rfl rfl rfl ?_); refine w_field Try.stTx _ _ _ rfl rfl rfl (by omega) ?_)
              | ((with_reducible refine at_load ?_); (try refine w_yes _ _ _ rfl rfl rfl ?_); refine w_fload _ rfl rfl rfl f9 rfl (agg_of (by kernel_rfl)) ?_)
              | fail) <;> (try simp only [Act.put, List.setIfInBounds_toArray, List.set_cons_zero, List.set_cons_succ]))
            go_roundw
            case rel => exact ⟨m + 1, by go_num, hlm'.out, by rw [hin'.out]; rfl, trivial⟩
            case measure => have := hlm'.out; simp [RowKit.intOf]; omega
        · have hin' := hide_ hin
          clear hin
          go_wp2_with ((first
            | ((with_reducible refine at_idx ?_); refine i_idx _ _ m rfl rfl rfl (hi0.out.ext hXr) rfl hlm'.out ?_; intro ad had; rw [hx.out] at had)
            | fail) <;> (try simp only [Act.put, List.setIfInBounds_toArray, List.set_cons_zero, List.set_cons_succ]))
          go_roundw
          case rel => exact ⟨m + 1, by go_num, hlm'.out, by rw [hin'.out]; rfl, trivial⟩
          case measure => have := hlm'.out; simp [RowKit.intOf]; omega
      obtain rfl : m = skip.length := by omega
      have t3 : decide (skip.length < skip.length) = false := by simp
      rw [List.take_length]
      obtain ⟨q, hq⟩ : ∃ q, decide (d.id ∈ skip) = q := ⟨_, rfl⟩
      rw [hq] at hsn ⊢
      clear hq hgm hm
      have hsn0 := hsn.out
      cases q
      · by_cases hb : (X.length : Int) < many
        · have t4 : decide ((X.length : Int) < many) = true := decide_eq_true hb
          rw [if_pos ⟨rfl, hb⟩] at hsn0
          have hsn' := hide_ hsn0
          clear hsn0 hsn hb
          go_wp2_with ((first
            | ((with_reducible refine at_bi ?_); (try refine w_yes _ _ _ rfl rfl rfl ?_); refine w_rlen Try.elTx _ rfl rfl rfl ho.recs ?_)
            | ((with_reducible refine at_load ?_); (try refine w_yes _ _ _ rfl rfl rfl ?_); refine w_aload Try.stTx (.tmp 9) rfl rfl rfl f9 rfl ?_)
            | ((with_reducible refine at_lit ?_); refine w_nnew Try.elTxN [d.row] rfl rfl rfl (by simp [TxD.row]) rfl (by omega) ?_; intro vl w6 B hB1 hB2 hx6 hn6; have hl6 := hn6.slS; replace ho := ho.ext hx6; replace hXr := hXr.trans hx6; clear f9 hn6 hB1 hB2 hx6)
            | ((with_reducible refine at_bi ?_); refine w_napp Try.elTxN _ _ rfl rfl rfl rfl ho.own hl6 (by simp) (by intro y hy; simp at hy; subst hy; exact d.one) hbig.out ?_; intro v9 w7 hm7 hn7; have hO2 := ho.app hXr.size hdraw.out hn7; replace hXr := hm7.after hXr ho.new; replace ho := hO2; clear hO2 hm7 hn7 hl6)
            | fail) <;> (try simp only [Act.put, List.setIfInBounds_toArray, List.set_cons_zero, List.set_cons_succ]))
          go_roundw
          case rel => exact ⟨k + 1, by go_num, hlt'.out, by rw [hsn'.out]; exact ho, hXr⟩
          case measure => have := hlt'.out; simp [RowKit.intOf]; omega
        · have t4 : decide ((X.length : Int) < many) = false := decide_eq_false hb
          rw [if_neg (fun h => hb h.2)] at hsn0
          have hsn' := hide_ hsn0
          clear hsn0 hsn hb
          go_wp2_with ((first
            | ((with_reducible refine at_bi ?_); (try refine w_yes _ _ _ rfl rfl rfl ?_); refine w_rlen Try.elTx _ rfl rfl rfl ho.recs ?_)
            | fail) <;> (try simp only [Act.put, List.setIfInBounds_toArray, List.set_cons_zero, List.set_cons_succ]))
          go_roundw
          case rel => exact ⟨k + 1, by go_num, hlt'.out, by rw [hsn'.out]; exact ho, hXr⟩
          case measure => have := hlt'.out; simp [RowKit.intOf]; omega
      · rw [if_neg (fun h => by cases h.1)] at hsn0
        have hsn' := hide_ hsn0
        clear hsn0 hsn
        go_wp2
        go_roundw
        case rel => exact ⟨k + 1, by go_num, hlt'.out, by rw [hsn'.out]; exact ho, hXr⟩
        case measure => have := hlt'.out; simp [RowKit.intOf]; omega

set_option maxRecDepth 100000 in
set_option maxHeartbeats 1600000 in
theorem refDrop_any {w : World} {v : Value} {l : List TxD} {vi : Value} {ids : List Int} (h0 : Recs 2 TxR w v l) (hn : l.length ≤ 16) (hi00 : Ints w vi ids) :
    Calls Try.prog 15 #[v, vi] w fun e w' => ∃ v', e = .returned v' ∧ OwnT w.heap.size w' v' (Mem.drop l ids) ∧ Ext w w' := by
  refine calls_keep ?_
  have hr := hide_ h0
  have hi0 := hide_ hi00
  have hn' := hide_ hn
  have he := hide_ (pick_all (l := l) (ids := ids))
  clear h0 hi00 hn
  go_enter Try.func15, Try.ntmps15
  go_wp2_with ((first
    | (go_at_call 19; refine (refPick_any (many := (l.length : Int)) hr.out hn'.out hi0.out).mono ?_; rintro e w4 ⟨v4, rfl, o4, hX⟩; rw [he.out] at o4)
    | ((with_reducible refine at_bi ?_); refine w_rlen Try.elTx _ rfl rfl rfl hr.out ?_)
    | fail) <;> (try simp only [Act.put, List.setIfInBounds_toArray, List.set_cons_zero, List.set_cons_succ]))
  go_ret
  exact Keep.intro ⟨_, rfl, o4, hX⟩
end Go.Proofs.Ytdacclcaopmalaa
