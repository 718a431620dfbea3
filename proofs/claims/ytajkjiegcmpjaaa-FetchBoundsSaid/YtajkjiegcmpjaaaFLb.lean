/- The statement FetchBounds: never more than so many are wanted, each once; what came isn't, and can be wanted again. No condition. -/
import Derived.Test.YtajkjiegcmpjaaaFeAct
import Derived.Deep.Cut
namespace Go.Proofs.Ytajkjiegcmpjaaa
set_option maxHeartbeats 3200000
set_option maxRecDepth 100000
open Go.RowKit Go.ChangeShapes Go.WideShapes Go.ChangeAt
namespace Fe
theorem want_len {l : List WtD} {n : Int} {q : Bool} (h : can l n = q) : ((want l n).length : Int) = l.length + (if q = true then 1 else 0) := by
  unfold want
  cases q <;> rw [h] <;> simp
def did (d : FacD) (l : List WtD) : List WtD := if d.k = 1 then got l d.n else want l d.n
theorem Ok.did {b : Nat} {l : List WtD} (h : Ok b l) (d : FacD) : Ok b (did d l) := by
  unfold Fe.did
  split
  · exact h.got _
  · exact h.want _
theorem did_off {l : List WtD} {d : FacD} {x : Int} (hd : d.k = 1) (hx : x ∈ (did d l).map (·.nm)) : x ≠ d.n := by
  unfold did at hx
  rw [if_pos hd, got_names] at hx
  have := (List.mem_filter.1 hx).2
  simpa using this
theorem nodup_ne {l : List Int} (h : l.Nodup) {i j : Nat} {x y : Int} (hij : i < j) (hx : l[i]? = some x) (hy : l[j]? = some y) : x ≠ y := by
  intro e
  subst e
  have h1 := (List.getElem?_eq_some_iff.1 hx)
  have h2 := (List.getElem?_eq_some_iff.1 hy)
  obtain ⟨a1, b1⟩ := h1
  obtain ⟨a2, b2⟩ := h2
  exact (List.pairwise_iff_getElem.1 h) i j a1 a2 hij (b1.trans b2.symm)
end Fe
theorem fetchBounds_law (me nd : Int) (va : Value) (acts : List FacD) (W : World) (ha0 : Recs 2 FacR W va acts) : Calls Try.prog 7 #[.int .i64 me, .int .i64 nd, va] W fun e w' => e = .returned (.bool true) ∧ Ext W w' := by
  refine calls_keep ?_
  have ha := hide_ ha0
  clear ha0
  go_enter Try.func7, Try.ntmps7
  go_upto_region 3 with (first
    | (go_at_call 15; refine (fetchAlive_any _).mono ?_; rintro e w2 ⟨rfl, hX⟩)
    | fail)
  by_cases h1 : nd < 1
  · have d1 : decide (nd < 1) = true := decide_eq_true h1
    clear h1
    go_wp2_with ((first
      | go_big_skip
      | ((with_reducible refine at_bi ?_); (try refine w_yes _ _ _ rfl rfl rfl ?_); refine w_rlen Try.elFac _ rfl rfl rfl (ha.out.ext FacR.stays hX) ?_)
      | fail) <;> (try simp only [Act.put, List.setIfInBounds_toArray, List.set_cons_zero, List.set_cons_succ]))
    go_ret
    exact Keep.intro ⟨rfl, hX⟩
  have d1 : decide (nd < 1) = false := decide_eq_false h1
  by_cases h2 : 7 < nd
  · have d2 : decide (7 < nd) = true := decide_eq_true h2
    clear h1 h2
    go_wp2_with ((first
      | go_big_skip
      | ((with_reducible refine at_bi ?_); (try refine w_yes _ _ _ rfl rfl rfl ?_); refine w_rlen Try.elFac _ rfl rfl rfl (ha.out.ext FacR.stays hX) ?_)
      | fail) <;> (try simp only [Act.put, List.setIfInBounds_toArray, List.set_cons_zero, List.set_cons_succ]))
    go_ret
    exact Keep.intro ⟨rfl, hX⟩
  have d2 : decide (7 < nd) = false := decide_eq_false h2
  by_cases h3 : me < 0
  · have d3 : decide (me < 0) = true := decide_eq_true h3
    clear h1 h2 h3
    go_wp2_with ((first
      | go_big_skip
      | ((with_reducible refine at_bi ?_); (try refine w_yes _ _ _ rfl rfl rfl ?_); refine w_rlen Try.elFac _ rfl rfl rfl (ha.out.ext FacR.stays hX) ?_)
      | fail) <;> (try simp only [Act.put, List.setIfInBounds_toArray, List.set_cons_zero, List.set_cons_succ]))
    go_ret
    exact Keep.intro ⟨rfl, hX⟩
  have d3 : decide (me < 0) = false := decide_eq_false h3
  by_cases h4 : nd ≤ me
  · have d4 : decide (nd ≤ me) = true := decide_eq_true h4
    clear h1 h2 h3 h4
    go_wp2_with ((first
      | go_big_skip
      | ((with_reducible refine at_bi ?_); (try refine w_yes _ _ _ rfl rfl rfl ?_); refine w_rlen Try.elFac _ rfl rfl rfl (ha.out.ext FacR.stays hX) ?_)
      | fail) <;> (try simp only [Act.put, List.setIfInBounds_toArray, List.set_cons_zero, List.set_cons_succ]))
    go_ret
    exact Keep.intro ⟨rfl, hX⟩
  have d4 : decide (nd ≤ me) = false := decide_eq_false h4
  by_cases h5 : (200 : Int) < (acts.length : Int)
  · have d5 : decide ((200 : Int) < (acts.length : Int)) = true := decide_eq_true h5
    clear h1 h2 h3 h4 h5
    go_wp2_with ((first
      | go_big_skip
      | ((with_reducible refine at_bi ?_); (try refine w_yes _ _ _ rfl rfl rfl ?_); refine w_rlen Try.elFac _ rfl rfl rfl (ha.out.ext FacR.stays hX) ?_)
      | fail) <;> (try simp only [Act.put, List.setIfInBounds_toArray, List.set_cons_zero, List.set_cons_succ]))
    go_ret
    exact Keep.intro ⟨rfl, hX⟩
  have d5 : decide ((200 : Int) < (acts.length : Int)) = false := decide_eq_false h5
  have hnd := hide_ (show 1 ≤ nd ∧ nd ≤ 7 from by omega)
  have hme := hide_ (show 0 ≤ me ∧ me < nd from by omega)
  have hal : acts.length ≤ 200 := by omega
  clear h1 h2 h3 h4 h5
  go_wp2_with ((first
    | go_big_skip
    | (go_at_call 16; refine (FNew_any me nd).mono ?_; rintro e w1 ⟨p, rfl, hP, hx, hp⟩; have hO : Out W (fun k => k = p) w1 := ⟨hX.trans hx, fun k hk => hk ▸ Nat.le_trans hX.size hp⟩; clear hx hp hX)
    | ((with_reducible refine at_bi ?_); (try refine w_yes _ _ _ rfl rfl rfl ?_); refine w_rlen Try.elFac _ rfl rfl rfl (ha.out.ext FacR.stays hX) ?_)
    | ((with_reducible refine at_bi ?_); (try refine w_yes _ _ _ rfl rfl rfl ?_); refine w_rlen Try.elFac _ rfl rfl rfl (ha.out.ext FacR.stays hO.ext) ?_)
    | fail) <;> (try simp only [Act.put, List.setIfInBounds_toArray, List.set_cons_zero, List.set_cons_succ]))
  go_loopw [43] (fun i wr => ∃ (k : Nat) (F : Nat → Prop) (l : List WtD), i = .int .i64 k ∧ k ≤ acts.length ∧ Fe.Ok k l ∧ Ft F wr p me nd l ∧ Out W F wr) (fun i _ => acts.length - (RowKit.intOf i).toNat)
  case atStart => exact ⟨0, _, [], rfl, Nat.zero_le _, Fe.Ok.nil 0, hP, hO⟩
  case round =>
    clear hP hO
    obtain ⟨k, F, l, rfl, hk, hok0, hP, hO⟩ := hrel
    have hok := hide_ hok0
    by_cases hge : acts.length ≤ k
    · obtain rfl : k = acts.length := by omega
      have t2 : decide (acts.length < acts.length) = false := by simp
      clear hge hok0
      go_wp2
      go_ret
      exact Keep.intro ⟨rfl, hO.ext⟩
    have hlt : k < acts.length := by omega
    have t2 : decide (k < acts.length) = true := decide_eq_true hlt
    obtain ⟨d, hd0⟩ : ∃ d, acts[k]? = some d := ⟨_, List.getElem?_eq_getElem hlt⟩
    have hd := hide_ hd0
    have hlt' := hide_ hlt
    have hdI := hide_ (show I64 d.n from by
      obtain ⟨rows, _, hl, hr⟩ := ha.out
      have h1 := hr k _ _ (List.getElem?_eq_getElem (by omega)) hd0
      exact h1.2.n)
    have hok1 := hide_ (hok0.did d)
    have hokT := hide_ ((hok0.did d).tick nd)
    obtain ⟨l1, hl10⟩ : ∃ l1, Fe.did d l = l1 := ⟨_, rfl⟩
    rw [hl10] at hok1 hokT
    obtain ⟨L, hL0⟩ : ∃ L, l1.map (·.nm) = L := ⟨_, rfl⟩
    have hL := hide_ hL0
    have hLl := hide_ (show (L.length : Int) = l1.length from by rw [← hL0]; simp)
    have hL32 := hide_ (show (L.length : Int) ≤ 32 from by have := hok1.out.few; have := hLl.out; omega)
    have t32 : decide ((32 : Int) < (L.length : Int)) = false := decide_eq_false (by have := hL32.out; omega)
    have hLu := hide_ (show L.Nodup from hL0 ▸ hok1.out.uq)
    have hLo := hide_ (show d.k = 1 → ∀ x ∈ L, x ≠ d.n from fun h x hx => Fe.did_off h (by rw [hl10, hL0]; exact hx))
    have hl1 := hide_ hl10
    obtain ⟨A, hA0⟩ : ∃ A, Fe.asks me nd l1 = A := ⟨_, rfl⟩
    have hA8 : (A.length : Int) ≤ 8 := by
      rw [← hA0]
      unfold Fe.asks
      split
      · simp
      · simp; omega
    have t8 : decide ((8 : Int) < (A.length : Int)) = false := decide_eq_false (by omega)
    have hA := hide_ hA0
    have hLb : L.length ≤ 32 := by have := hL32.out; omega
    clear hge hlt hd0 hok0 hl10 hL0 hA0 hA8
    by_cases hk1 : d.k = 1
    · have tk : (d.k == 1) = true := by simp [hk1]
      have hgot := hide_ (show Fe.got l d.n = l1 from by rw [← hl1.out]; unfold Fe.did; rw [if_pos hk1])
      have hoff := hide_ (hLo.out hk1)
      clear hk1
      have tokA : True := trivial
      have hlb : l.length ≤ 32 := hok.out.few
      go_wp2_with ((first
        | ((with_reducible refine at_idx ?_); refine w_facidx Try.elFac _ _ k rfl rfl rfl rfl ha.out hO.ext hd.out ?_; intro pa hrow0 _; have hrow := hide_ hrow0; clear hrow0)
        | ((with_reducible refine at_load ?_); refine w_pload Try.stFac _ rfl rfl rfl hrow.out rfl ?_)
        | ((with_reducible refine at_alloc ?_); refine w_alloc Try.stFac rfl rfl ?_; intro g9 w5 hg9 hxa f9)
        | ((with_reducible refine at_store ?_); refine w_astore Try.stFac _ _ (us := [.int .i64 d.k, .int .i64 d.n]) rfl rfl rfl rfl rfl f9 rfl rfl (by intro u hu; simp at hu; rcases hu with rfl | rfl <;> rfl) ?_; intro w6 hm6 f6; have hx := hm6.after hxa (fun i e => e ▸ hg9); have hn9 := hide_ (show ¬ F g9 from fun h => by have := hP.lt g9 h; omega); replace hP := hP.ext hx; replace hO := hO.extend hx; replace f9 := f6; clear hx hm6 hxa f6 hg9)
        | ((with_reducible refine at_field ?_); (try refine w_yes _ _ _ rfl rfl rfl ?_); refine w_field Try.stFac _ _ _ rfl rfl rfl (by omega) ?_)
        | ((with_reducible refine at_load ?_); (try refine w_yes _ _ _ rfl rfl rfl ?_); refine w_fload _ rfl rfl rfl f9 rfl (agg_of (by kernel_rfl)) ?_)
        | (go_at_call 25; refine (FWantedH hP hok.out.few).mono ?_; rintro e w3 ⟨v3, rfl, o3, hx⟩; have _t := tokA; replace hP := hP.ext hx; replace hO := hO.extend hx; have oA := o3.ints; replace f9 := f9.ext hx; clear hx o3 tokA _t)
        | ((with_reducible refine at_bi ?_); (try refine w_yes _ _ _ rfl rfl rfl ?_); refine i_len _ rfl rfl rfl oA ?_; rw [List.length_map]; clear oA)
        | (go_at_call 20; refine (FGot_any (n := d.n) hP hok.out).mono ?_; rintro e w2 ⟨F1, rfl, hP2, hU⟩; rw [hgot.out] at hP2; replace f9 := f9.mod hU.mod hn9.out; replace hP := hP2; replace hO := hO.upd hU; clear hP2 hU)
        | (go_at_call 25; refine (FWantedH hP hok1.out.few).mono ?_; rintro e w3 ⟨v3, rfl, o3, hx⟩; rw [hL.out] at o3; have o8 := hide_ o3.ints; replace hP := hP.ext hx; replace hO := hO.extend hx; replace f9 := f9.ext hx; clear hx o3)
        | ((with_reducible refine at_bi ?_); (try refine w_yes _ _ _ rfl rfl rfl ?_); refine i_len _ rfl rfl rfl o8.out ?_)
        | fail) <;> (try simp only [Act.put, List.setIfInBounds_toArray, List.set_cons_zero, List.set_cons_succ]))
      have hxb := Ext.refl w3
      obtain ⟨wb, hwb⟩ : ∃ wb, wb = w3 := ⟨_, rfl⟩
      subst hwb
      go_loopw [72] (fun i wr => ∃ i0 : Nat, i = .int .i64 i0 ∧ i0 ≤ L.length ∧ Ext wb wr ∧ Ft F1 wr p me nd l1 ∧ Out W F1 wr ∧ Fs wr g9 [.int .i64 d.k, .int .i64 d.n]) (fun i _ => L.length - (RowKit.intOf i).toNat)
      case atStart => exact ⟨0, rfl, Nat.zero_le _, hxb, hP, hO, f9⟩
      case round =>
        clear hxb hP hO f9
        obtain ⟨i, rfl, hi, hxb, hP, hO, f9⟩ := hrel
        by_cases hge : L.length ≤ i
        · obtain rfl : i = L.length := by omega
          have t4 : decide (L.length < L.length) = false := by simp
          clear hge hi
          go_wp2_with ((first
            | go_big_skip
            | (go_at_call 18; refine (FTick_any hP hok1.out (by omega) hnd.out hme.out).mono ?_; rintro e w4 ⟨v4, rfl, hP2, hr40, hm⟩; have hr4 := hide_ (hA.out ▸ at_recs hr40); replace hP := hP2; replace hO := hO.upd ⟨hm, fun _ h => .inl h⟩; clear hr40 hm hP2)
            | ((with_reducible refine at_bi ?_); (try refine w_yes _ _ _ rfl rfl rfl ?_); refine i_len _ rfl rfl rfl (o8.out.ext hxb) ?_)
            | ((with_reducible refine at_bi ?_); (try refine w_yes _ _ _ rfl rfl rfl ?_); refine w_rlen Try.elAt _ rfl rfl rfl hr4.out ?_)
            | fail) <;> (try simp only [Act.put, List.setIfInBounds_toArray, List.set_cons_zero, List.set_cons_succ]))
          go_roundw
          case rel => exact ⟨k + 1, F1, _, by go_num, hlt'.out, hokT.out, hP, hO⟩
          case measure => have := hlt'.out; simp [RowKit.intOf]; omega
        have hlt : i < L.length := by omega
        have t4 : decide (i < L.length) = true := decide_eq_true hlt
        obtain ⟨n, hn0⟩ : ∃ n, L[i]? = some n := ⟨_, List.getElem?_eq_getElem hlt⟩
        have hn := hide_ hn0
        have hltI := hide_ hlt
        have hib : i ≤ 32 := by omega
        have hiL := hide_ (show i ≤ L.length from by omega)
        have hno : (n == d.n) = false := by simpa using hoff.out n (List.mem_of_getElem? hn0)
        have hTl := hide_ (show (L.take i).length = i from by rw [List.length_take]; omega)
        clear hge hlt hn0
        go_wp2_with ((first
          | ((with_reducible refine at_idx ?_); refine w_iidx _ _ i rfl rfl rfl (o8.out.ext hxb) rfl hn.out ?_; intro ad hc)
          | ((with_reducible refine at_cut ?_); refine w_itoF _ _ i rfl rfl rfl (o8.out.ext hxb) rfl hiL.out ?_; intro v7 o70; have o7 := hide_ o70; clear o70)
          | ((with_reducible refine at_bi ?_); (try refine w_yes _ _ _ rfl rfl rfl ?_); refine i_len _ rfl rfl rfl o7.out ?_; rw [hTl.out])
          | fail) <;> (try simp only [Act.put, List.setIfInBounds_toArray, List.set_cons_zero, List.set_cons_succ]))
        have hxb0 := hide_ hxb
        obtain ⟨wo, hwo⟩ : ∃ wo, wo = wr := ⟨_, rfl⟩
        subst hwo
        have hxo := Ext.refl wo
        go_loopw [81] (fun i2 wr => ∃ j : Nat, i2 = .int .i64 j ∧ j ≤ i ∧ Ext wo wr ∧ Ft F1 wr p me nd l1 ∧ Out W F1 wr ∧ Fs wr g9 [.int .i64 d.k, .int .i64 d.n]) (fun i2 _ => i - (RowKit.intOf i2).toNat)
        case atStart => exact ⟨0, rfl, Nat.zero_le _, hxo, hP, hO, f9⟩
        case round =>
          clear hxo hxb hP hO f9
          obtain ⟨j, rfl, hj, hxo, hP, hO, f9⟩ := hrel
          by_cases hge : i ≤ j
          · obtain rfl : j = i := by omega
            have t5 : decide (j < j) = false := by simp
            clear hge hj
            go_wp2_with ((first
              | go_big_skip
              | ((with_reducible refine at_field ?_); (try refine w_yes _ _ _ rfl rfl rfl ?_); refine w_field Try.stFac _ _ _ rfl rfl rfl (by omega) ?_)
              | ((with_reducible refine at_load ?_); (try refine w_yes _ _ _ rfl rfl rfl ?_); refine w_fload _ rfl rfl rfl f9 rfl (agg_of (by kernel_rfl)) ?_)
              | fail) <;> (try simp only [Act.put, List.setIfInBounds_toArray, List.set_cons_zero, List.set_cons_succ]))
            go_roundw
            case rel => exact ⟨j + 1, by go_num, hltI.out, hxb0.out.trans hxo, hP, hO, f9⟩
            case measure => have := hltI.out; simp [RowKit.intOf]; omega
          have hlt : j < i := by omega
          have t5 : decide (j < i) = true := decide_eq_true hlt
          obtain ⟨m, hm0⟩ : ∃ m, L[j]? = some m := ⟨_, List.getElem?_eq_getElem (by have := hltI.out; omega)⟩
          have hmT := hide_ (show (L.take i)[j]? = some m from by rw [List.getElem?_take_of_lt hlt]; exact hm0)
          have hmn : (m == n) = false := by simpa using Fe.nodup_ne hLu.out hlt hm0 hn.out
          have hlt2 := hide_ hlt
          have hjb : j ≤ 32 := by omega
          clear hge hlt hm0
          go_wp2_with ((first
            | ((with_reducible refine at_idx ?_); refine w_iidx _ _ j rfl rfl rfl (o7.out.ext hxo) rfl hmT.out ?_; intro ad2 hc2)
            | fail) <;> (try simp only [Act.put, List.setIfInBounds_toArray, List.set_cons_zero, List.set_cons_succ]))
          go_roundw
          case rel => exact ⟨j + 1, by go_num, hlt2.out, hxo, hP, hO, f9⟩
          case measure => have := hlt2.out; simp [RowKit.intOf]; omega
    · have tk : (d.k == 1) = false := by simp [hk1]
      obtain ⟨q, hq0⟩ : ∃ q, Fe.can l d.n = q := ⟨_, rfl⟩
      have hq := hide_ hq0
      have hwant := hide_ (show Fe.want l d.n = l1 from by rw [← hl1.out]; unfold Fe.did; rw [if_neg hk1])
      have hwl := Fe.want_len hq0
      rw [hwant.out] at hwl
      clear hk1 hq0
      cases q
      all_goals
        have tq := hide_ hwl
        clear hwl
      · have hwl : ((L.length : Int) == (l.length : Int) + 1) = false := by have h1 := tq.out; have h2 := hLl.out; rw [if_neg (by simp)] at h1; rw [beq_eq_false_iff_ne]; omega
        have tokA : True := trivial
        have tokB : True := trivial
        have hlb : l.length ≤ 32 := hok.out.few
        go_wp2_with ((first
          | ((with_reducible refine at_idx ?_); refine w_facidx Try.elFac _ _ k rfl rfl rfl rfl ha.out hO.ext hd.out ?_; intro pa hrow0 _; have hrow := hide_ hrow0; clear hrow0)
          | ((with_reducible refine at_load ?_); refine w_pload Try.stFac _ rfl rfl rfl hrow.out rfl ?_)
          | ((with_reducible refine at_alloc ?_); refine w_alloc Try.stFac rfl rfl ?_; intro g9 w5 hg9 hxa f9)
          | ((with_reducible refine at_store ?_); refine w_astore Try.stFac _ _ (us := [.int .i64 d.k, .int .i64 d.n]) rfl rfl rfl rfl rfl f9 rfl rfl (by intro u hu; simp at hu; rcases hu with rfl | rfl <;> rfl) ?_; intro w6 hm6 f6; have hx := hm6.after hxa (fun i e => e ▸ hg9); have hn9 := hide_ (show ¬ F g9 from fun h => by have := hP.lt g9 h; omega); replace hP := hP.ext hx; replace hO := hO.extend hx; replace f9 := f6; clear hx hm6 hxa f6 hg9)
          | ((with_reducible refine at_field ?_); (try refine w_yes _ _ _ rfl rfl rfl ?_); refine w_field Try.stFac _ _ _ rfl rfl rfl (by omega) ?_)
          | ((with_reducible refine at_load ?_); (try refine w_yes _ _ _ rfl rfl rfl ?_); refine w_fload _ rfl rfl rfl f9 rfl (agg_of (by kernel_rfl)) ?_)
          | (go_at_call 25; refine (FWantedH hP hok.out.few).mono ?_; rintro e w3 ⟨v3, rfl, o3, hx⟩; have _t := tokA; replace hP := hP.ext hx; replace hO := hO.extend hx; have oA := o3.ints; replace f9 := f9.ext hx; clear hx o3 tokA _t)
          | ((with_reducible refine at_bi ?_); (try refine w_yes _ _ _ rfl rfl rfl ?_); refine i_len _ rfl rfl rfl oA ?_; rw [List.length_map]; clear oA)
          | (go_at_call 17; refine (FWant_any hP hok.out hdI.out hq.out).mono ?_; rintro e w2 ⟨F1, rfl, hP2, hU⟩; rw [hwant.out] at hP2; replace f9 := f9.mod hU.mod hn9.out; replace hP := hP2; replace hO := hO.upd hU; clear hP2 hU)
          | (go_at_call 25; refine (FWantedH hP hok1.out.few).mono ?_; rintro e w3 ⟨v3, rfl, o3, hx⟩; have _t := tokB; rw [hL.out] at o3; have oB := hide_ o3.ints; replace hP := hP.ext hx; replace hO := hO.extend hx; replace f9 := f9.ext hx; clear hx o3 tokB _t)
          | ((with_reducible refine at_bi ?_); (try refine w_yes _ _ _ rfl rfl rfl ?_); refine i_len _ rfl rfl rfl oB.out ?_; clear oB)
          | (go_at_call 25; refine (FWantedH hP hok1.out.few).mono ?_; rintro e w3 ⟨v3, rfl, o3, hx⟩; rw [hL.out] at o3; have o8 := hide_ o3.ints; replace hP := hP.ext hx; replace hO := hO.extend hx; replace f9 := f9.ext hx; clear hx o3)
          | ((with_reducible refine at_bi ?_); (try refine w_yes _ _ _ rfl rfl rfl ?_); refine i_len _ rfl rfl rfl o8.out ?_)
          | fail) <;> (try simp only [Act.put, List.setIfInBounds_toArray, List.set_cons_zero, List.set_cons_succ]))
        have hxb := Ext.refl w3
        obtain ⟨wb, hwb⟩ : ∃ wb, wb = w3 := ⟨_, rfl⟩
        subst hwb
        go_loopw [72] (fun i wr => ∃ i0 : Nat, i = .int .i64 i0 ∧ i0 ≤ L.length ∧ Ext wb wr ∧ Ft F1 wr p me nd l1 ∧ Out W F1 wr ∧ Fs wr g9 [.int .i64 d.k, .int .i64 d.n]) (fun i _ => L.length - (RowKit.intOf i).toNat)
        case atStart => exact ⟨0, rfl, Nat.zero_le _, hxb, hP, hO, f9⟩
        case round =>
          clear hxb hP hO f9
          obtain ⟨i, rfl, hi, hxb, hP, hO, f9⟩ := hrel
          by_cases hge : L.length ≤ i
          · obtain rfl : i = L.length := by omega
            have t4 : decide (L.length < L.length) = false := by simp
            clear hge hi
            go_wp2_with ((first
              | go_big_skip
              | (go_at_call 18; refine (FTick_any hP hok1.out (by omega) hnd.out hme.out).mono ?_; rintro e w4 ⟨v4, rfl, hP2, hr40, hm⟩; have hr4 := hide_ (hA.out ▸ at_recs hr40); replace hP := hP2; replace hO := hO.upd ⟨hm, fun _ h => .inl h⟩; clear hr40 hm hP2)
              | ((with_reducible refine at_bi ?_); (try refine w_yes _ _ _ rfl rfl rfl ?_); refine i_len _ rfl rfl rfl (o8.out.ext hxb) ?_)
              | ((with_reducible refine at_bi ?_); (try refine w_yes _ _ _ rfl rfl rfl ?_); refine w_rlen Try.elAt _ rfl rfl rfl hr4.out ?_)
              | fail) <;> (try simp only [Act.put, List.setIfInBounds_toArray, List.set_cons_zero, List.set_cons_succ]))
            go_roundw
            case rel => exact ⟨k + 1, F1, _, by go_num, hlt'.out, hokT.out, hP, hO⟩
            case measure => have := hlt'.out; simp [RowKit.intOf]; omega
          have hlt : i < L.length := by omega
          have t4 : decide (i < L.length) = true := decide_eq_true hlt
          obtain ⟨n, hn0⟩ : ∃ n, L[i]? = some n := ⟨_, List.getElem?_eq_getElem hlt⟩
          have hn := hide_ hn0
          have hltI := hide_ hlt
          have hib : i ≤ 32 := by omega
          have hiL := hide_ (show i ≤ L.length from by omega)
          have hTl := hide_ (show (L.take i).length = i from by rw [List.length_take]; omega)
          clear hge hlt hn0
          go_wp2_with ((first
            | ((with_reducible refine at_idx ?_); refine w_iidx _ _ i rfl rfl rfl (o8.out.ext hxb) rfl hn.out ?_; intro ad hc)
            | ((with_reducible refine at_cut ?_); refine w_itoF _ _ i rfl rfl rfl (o8.out.ext hxb) rfl hiL.out ?_; intro v7 o70; have o7 := hide_ o70; clear o70)
            | ((with_reducible refine at_bi ?_); (try refine w_yes _ _ _ rfl rfl rfl ?_); refine i_len _ rfl rfl rfl o7.out ?_; rw [hTl.out])
            | fail) <;> (try simp only [Act.put, List.setIfInBounds_toArray, List.set_cons_zero, List.set_cons_succ]))
          have hxb0 := hide_ hxb
          obtain ⟨wo, hwo⟩ : ∃ wo, wo = wr := ⟨_, rfl⟩
          subst hwo
          have hxo := Ext.refl wo
          go_loopw [81] (fun i2 wr => ∃ j : Nat, i2 = .int .i64 j ∧ j ≤ i ∧ Ext wo wr ∧ Ft F1 wr p me nd l1 ∧ Out W F1 wr ∧ Fs wr g9 [.int .i64 d.k, .int .i64 d.n]) (fun i2 _ => i - (RowKit.intOf i2).toNat)
          case atStart => exact ⟨0, rfl, Nat.zero_le _, hxo, hP, hO, f9⟩
          case round =>
            clear hxo hxb hP hO f9
            obtain ⟨j, rfl, hj, hxo, hP, hO, f9⟩ := hrel
            by_cases hge : i ≤ j
            · obtain rfl : j = i := by omega
              have t5 : decide (j < j) = false := by simp
              clear hge hj
              go_wp2_with ((first
                | go_big_skip
                | ((with_reducible refine at_field ?_); (try refine w_yes _ _ _ rfl rfl rfl ?_); refine w_field Try.stFac _ _ _ rfl rfl rfl (by omega) ?_)
                | ((with_reducible refine at_load ?_); (try refine w_yes _ _ _ rfl rfl rfl ?_); refine w_fload _ rfl rfl rfl f9 rfl (agg_of (by kernel_rfl)) ?_)
                | fail) <;> (try simp only [Act.put, List.setIfInBounds_toArray, List.set_cons_zero, List.set_cons_succ]))
              go_roundw
              case rel => exact ⟨j + 1, by go_num, hltI.out, hxb0.out.trans hxo, hP, hO, f9⟩
              case measure => have := hltI.out; simp [RowKit.intOf]; omega
            have hlt : j < i := by omega
            have t5 : decide (j < i) = true := decide_eq_true hlt
            obtain ⟨m, hm0⟩ : ∃ m, L[j]? = some m := ⟨_, List.getElem?_eq_getElem (by have := hltI.out; omega)⟩
            have hmT := hide_ (show (L.take i)[j]? = some m from by rw [List.getElem?_take_of_lt hlt]; exact hm0)
            have hmn : (m == n) = false := by simpa using Fe.nodup_ne hLu.out hlt hm0 hn.out
            have hlt2 := hide_ hlt
            have hjb : j ≤ 32 := by omega
            clear hge hlt hm0
            go_wp2_with ((first
              | ((with_reducible refine at_idx ?_); refine w_iidx _ _ j rfl rfl rfl (o7.out.ext hxo) rfl hmT.out ?_; intro ad2 hc2)
              | fail) <;> (try simp only [Act.put, List.setIfInBounds_toArray, List.set_cons_zero, List.set_cons_succ]))
            go_roundw
            case rel => exact ⟨j + 1, by go_num, hlt2.out, hxo, hP, hO, f9⟩
            case measure => have := hlt2.out; simp [RowKit.intOf]; omega
      · have hwl : ((L.length : Int) == (l.length : Int) + 1) = true := by have h1 := tq.out; have h2 := hLl.out; rw [if_pos rfl] at h1; rw [beq_iff_eq]; omega
        have tokA : True := trivial
        have tokB : True := trivial
        have hlb : l.length ≤ 32 := hok.out.few
        go_wp2_with ((first
          | ((with_reducible refine at_idx ?_); refine w_facidx Try.elFac _ _ k rfl rfl rfl rfl ha.out hO.ext hd.out ?_; intro pa hrow0 _; have hrow := hide_ hrow0; clear hrow0)
          | ((with_reducible refine at_load ?_); refine w_pload Try.stFac _ rfl rfl rfl hrow.out rfl ?_)
          | ((with_reducible refine at_alloc ?_); refine w_alloc Try.stFac rfl rfl ?_; intro g9 w5 hg9 hxa f9)
          | ((with_reducible refine at_store ?_); refine w_astore Try.stFac _ _ (us := [.int .i64 d.k, .int .i64 d.n]) rfl rfl rfl rfl rfl f9 rfl rfl (by intro u hu; simp at hu; rcases hu with rfl | rfl <;> rfl) ?_; intro w6 hm6 f6; have hx := hm6.after hxa (fun i e => e ▸ hg9); have hn9 := hide_ (show ¬ F g9 from fun h => by have := hP.lt g9 h; omega); replace hP := hP.ext hx; replace hO := hO.extend hx; replace f9 := f6; clear hx hm6 hxa f6 hg9)
          | ((with_reducible refine at_field ?_); (try refine w_yes _ _ _ rfl rfl rfl ?_); refine w_field Try.stFac _ _ _ rfl rfl rfl (by omega) ?_)
          | ((with_reducible refine at_load ?_); (try refine w_yes _ _ _ rfl rfl rfl ?_); refine w_fload _ rfl rfl rfl f9 rfl (agg_of (by kernel_rfl)) ?_)
          | (go_at_call 25; refine (FWantedH hP hok.out.few).mono ?_; rintro e w3 ⟨v3, rfl, o3, hx⟩; have _t := tokA; replace hP := hP.ext hx; replace hO := hO.extend hx; have oA := o3.ints; replace f9 := f9.ext hx; clear hx o3 tokA _t)
          | ((with_reducible refine at_bi ?_); (try refine w_yes _ _ _ rfl rfl rfl ?_); refine i_len _ rfl rfl rfl oA ?_; rw [List.length_map]; clear oA)
          | (go_at_call 17; refine (FWant_any hP hok.out hdI.out hq.out).mono ?_; rintro e w2 ⟨F1, rfl, hP2, hU⟩; rw [hwant.out] at hP2; replace f9 := f9.mod hU.mod hn9.out; replace hP := hP2; replace hO := hO.upd hU; clear hP2 hU)
          | (go_at_call 25; refine (FWantedH hP hok1.out.few).mono ?_; rintro e w3 ⟨v3, rfl, o3, hx⟩; have _t := tokB; rw [hL.out] at o3; have oB := hide_ o3.ints; replace hP := hP.ext hx; replace hO := hO.extend hx; replace f9 := f9.ext hx; clear hx o3 tokB _t)
          | ((with_reducible refine at_bi ?_); (try refine w_yes _ _ _ rfl rfl rfl ?_); refine i_len _ rfl rfl rfl oB.out ?_; clear oB)
          | (go_at_call 25; refine (FWantedH hP hok1.out.few).mono ?_; rintro e w3 ⟨v3, rfl, o3, hx⟩; rw [hL.out] at o3; have o8 := hide_ o3.ints; replace hP := hP.ext hx; replace hO := hO.extend hx; replace f9 := f9.ext hx; clear hx o3)
          | ((with_reducible refine at_bi ?_); (try refine w_yes _ _ _ rfl rfl rfl ?_); refine i_len _ rfl rfl rfl o8.out ?_)
          | fail) <;> (try simp only [Act.put, List.setIfInBounds_toArray, List.set_cons_zero, List.set_cons_succ]))
        have hxb := Ext.refl w3
        obtain ⟨wb, hwb⟩ : ∃ wb, wb = w3 := ⟨_, rfl⟩
        subst hwb
        go_loopw [72] (fun i wr => ∃ i0 : Nat, i = .int .i64 i0 ∧ i0 ≤ L.length ∧ Ext wb wr ∧ Ft F1 wr p me nd l1 ∧ Out W F1 wr ∧ Fs wr g9 [.int .i64 d.k, .int .i64 d.n]) (fun i _ => L.length - (RowKit.intOf i).toNat)
        case atStart => exact ⟨0, rfl, Nat.zero_le _, hxb, hP, hO, f9⟩
        case round =>
          clear hxb hP hO f9
          obtain ⟨i, rfl, hi, hxb, hP, hO, f9⟩ := hrel
          by_cases hge : L.length ≤ i
          · obtain rfl : i = L.length := by omega
            have t4 : decide (L.length < L.length) = false := by simp
            clear hge hi
            go_wp2_with ((first
              | go_big_skip
              | (go_at_call 18; refine (FTick_any hP hok1.out (by omega) hnd.out hme.out).mono ?_; rintro e w4 ⟨v4, rfl, hP2, hr40, hm⟩; have hr4 := hide_ (hA.out ▸ at_recs hr40); replace hP := hP2; replace hO := hO.upd ⟨hm, fun _ h => .inl h⟩; clear hr40 hm hP2)
              | ((with_reducible refine at_bi ?_); (try refine w_yes _ _ _ rfl rfl rfl ?_); refine i_len _ rfl rfl rfl (o8.out.ext hxb) ?_)
              | ((with_reducible refine at_bi ?_); (try refine w_yes _ _ _ rfl rfl rfl ?_); refine w_rlen Try.elAt _ rfl rfl rfl hr4.out ?_)
              | fail) <;> (try simp only [Act.put, List.setIfInBounds_toArray, List.set_cons_zero, List.set_cons_succ]))
            go_roundw
            case rel => exact ⟨k + 1, F1, _, by go_num, hlt'.out, hokT.out, hP, hO⟩
            case measure => have := hlt'.out; simp [RowKit.intOf]; omega
          have hlt : i < L.length := by omega
          have t4 : decide (i < L.length) = true := decide_eq_true hlt
          obtain ⟨n, hn0⟩ : ∃ n, L[i]? = some n := ⟨_, List.getElem?_eq_getElem hlt⟩
          have hn := hide_ hn0
          have hltI := hide_ hlt
          have hib : i ≤ 32 := by omega
          have hiL := hide_ (show i ≤ L.length from by omega)
          have hTl := hide_ (show (L.take i).length = i from by rw [List.length_take]; omega)
          clear hge hlt hn0
          go_wp2_with ((first
            | ((with_reducible refine at_idx ?_); refine w_iidx _ _ i rfl rfl rfl (o8.out.ext hxb) rfl hn.out ?_; intro ad hc)
            | ((with_reducible refine at_cut ?_); refine w_itoF _ _ i rfl rfl rfl (o8.out.ext hxb) rfl hiL.out ?_; intro v7 o70; have o7 := hide_ o70; clear o70)
            | ((with_reducible refine at_bi ?_); (try refine w_yes _ _ _ rfl rfl rfl ?_); refine i_len _ rfl rfl rfl o7.out ?_; rw [hTl.out])
            | fail) <;> (try simp only [Act.put, List.setIfInBounds_toArray, List.set_cons_zero, List.set_cons_succ]))
          have hxb0 := hide_ hxb
          obtain ⟨wo, hwo⟩ : ∃ wo, wo = wr := ⟨_, rfl⟩
          subst hwo
          have hxo := Ext.refl wo
          go_loopw [81] (fun i2 wr => ∃ j : Nat, i2 = .int .i64 j ∧ j ≤ i ∧ Ext wo wr ∧ Ft F1 wr p me nd l1 ∧ Out W F1 wr ∧ Fs wr g9 [.int .i64 d.k, .int .i64 d.n]) (fun i2 _ => i - (RowKit.intOf i2).toNat)
          case atStart => exact ⟨0, rfl, Nat.zero_le _, hxo, hP, hO, f9⟩
          case round =>
            clear hxo hxb hP hO f9
            obtain ⟨j, rfl, hj, hxo, hP, hO, f9⟩ := hrel
            by_cases hge : i ≤ j
            · obtain rfl : j = i := by omega
              have t5 : decide (j < j) = false := by simp
              clear hge hj
              go_wp2_with ((first
                | go_big_skip
                | ((with_reducible refine at_field ?_); (try refine w_yes _ _ _ rfl rfl rfl ?_); refine w_field Try.stFac _ _ _ rfl rfl rfl (by omega) ?_)
                | ((with_reducible refine at_load ?_); (try refine w_yes _ _ _ rfl rfl rfl ?_); refine w_fload _ rfl rfl rfl f9 rfl (agg_of (by kernel_rfl)) ?_)
                | fail) <;> (try simp only [Act.put, List.setIfInBounds_toArray, List.set_cons_zero, List.set_cons_succ]))
              go_roundw
              case rel => exact ⟨j + 1, by go_num, hltI.out, hxb0.out.trans hxo, hP, hO, f9⟩
              case measure => have := hltI.out; simp [RowKit.intOf]; omega
            have hlt : j < i := by omega
            have t5 : decide (j < i) = true := decide_eq_true hlt
            obtain ⟨m, hm0⟩ : ∃ m, L[j]? = some m := ⟨_, List.getElem?_eq_getElem (by have := hltI.out; omega)⟩
            have hmT := hide_ (show (L.take i)[j]? = some m from by rw [List.getElem?_take_of_lt hlt]; exact hm0)
            have hmn : (m == n) = false := by simpa using Fe.nodup_ne hLu.out hlt hm0 hn.out
            have hlt2 := hide_ hlt
            have hjb : j ≤ 32 := by omega
            clear hge hlt hm0
            go_wp2_with ((first
              | ((with_reducible refine at_idx ?_); refine w_iidx _ _ j rfl rfl rfl (o7.out.ext hxo) rfl hmT.out ?_; intro ad2 hc2)
              | fail) <;> (try simp only [Act.put, List.setIfInBounds_toArray, List.set_cons_zero, List.set_cons_succ]))
            go_roundw
            case rel => exact ⟨j + 1, by go_num, hlt2.out, hxo, hP, hO, f9⟩
            case measure => have := hlt2.out; simp [RowKit.intOf]; omega
theorem fetchBounds_lifted (os : Os) (started : os.Started) (H : Type) (enc : TypeId × Value → H) :
    ReturnsInHanded {} Try.checked os 7 .any (Rows.fetchBoundsSpec.pre6 enc Try.prog Try.f7 Rows.fetchBoundsRow.domain false) (Rows.fetchBoundsSpec.post enc Try.prog Try.f7 false true false false) := by
  refine law_lifted (s := Rows.fetchBoundsSpec) (conds := Rows.fetchBoundsRow.domain) Try.func7 (by kernel_rfl) rfl (fun H ds h => by
      rw [show Try.f7.params.size = 3 from rfl] at h
      match ds, h with
      | [d0, d1, d2], _ => rfl) rfl rfl (by decide +kernel) os started H enc
    (ChangeSpec.witness6 (enc := enc) (C := Try.checked) false ⟨#[], #[.int .i64 0, .int .i64 0, .slice none 0 0], []⟩ 8 (by kernel_rfl) (by kernel_rfl) (by kernel_rfl) (by kernel_rfl)) ?_
  intro W base args ds p hval hA hsz _
  have hp : Try.f7.params.toList = [3, 3, 34] := rfl
  rw [hp] at hA hsz
  obtain ⟨v0, v1, v2, d0, d1, d2, p0, p1, p2, rfl, rfl, rfl, h0, h1, h2⟩ := trodAll_three hA
  obtain ⟨a0, rfl, b0, c0⟩ := arg_int (hval 0 3 v0 rfl rfl) h0
  obtain ⟨a1, rfl, b1, c1⟩ := arg_int (hval 1 3 v1 rfl rfl) h1
  obtain ⟨l2, a2⟩ := arg_Facs hsz (j := 2) rfl rfl (hval 2 34 v2 rfl rfl) h2
  exact fetchBounds_law a0 a1 _ l2 W a2
theorem fetchBounds_holds : Rows.FetchBoundsSaid :=
  OpenClaim.holds_of_wide 7 Try.f7 rfl rfl rfl rfl rfl rfl rfl ⟨rfl, rfl, rfl, rfl, rfl⟩ rfl rfl rfl rfl rfl (by kernel_rfl) Try.func7 (by kernel_rfl)
    (of_decide_eq_true (by kernel_rfl)) (by unfold Func.isWrapper; first | (rw [if_pos (by decide +kernel)]; kernel_rfl) | (rw [if_neg (by decide +kernel)]; exact ⟨rfl, rfl⟩))
    (fun os started H enc _ => fetchBounds_lifted os started H enc)
#print axioms fetchBounds_holds
end Go.Proofs.Ytajkjiegcmpjaaa
