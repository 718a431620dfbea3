/- The statement FetchAll: of a block that is wanted each other node is asked once in so many ticks as there are others; never oneself. No condition. -/
import Derived.Test.YtajkjiegcmpjaaaPk19
import Derived.Deep.Cut
namespace Go.Proofs.Ytajkjiegcmpjaaa
set_option maxHeartbeats 3200000
set_option maxRecDepth 100000
open Go.RowKit Go.ChangeShapes Go.WideShapes Go.ChangeAt
namespace Fe
def wl (n : Nat) (r : Int) : List WtD := (List.range n).map fun (j : Nat) => ⟨((j + 1 : Nat) : Int) * 65536, r⟩
theorem wl_len (n : Nat) (r : Int) : (wl n r).length = n := by simp [wl]
theorem wl_names (n : Nat) (r : Int) : (wl n r).map (·.nm) = nmsF 1 n := by
  unfold wl nmsF
  rw [List.map_map, List.range_eq_range', List.range'_eq_map_range, List.range'_eq_map_range, List.map_map, List.map_map, Nat.add_sub_cancel]
  refine List.map_congr_left fun i _ => ?_
  simp only [Function.comp]
  omega
theorem wl_ok {n : Nat} (hn : n ≤ 8) (r : Nat) : Ok r (wl n r) := by
  refine ⟨by rw [wl_len]; omega, ?_, ?_, ?_⟩
  · rw [wl_names]
    unfold nmsF
    rw [List.Nodup, List.pairwise_map]
    exact List.Pairwise.imp (fun h e => by omega) (List.nodup_range' (step := 1) (by omega))
  · intro x hx
    obtain ⟨j, hj, rfl⟩ := List.mem_map.1 hx
    rw [List.mem_range] at hj
    exact nmOk_k (by omega) (by omega)
  · intro x hx
    obtain ⟨j, hj, rfl⟩ := List.mem_map.1 hx
    exact ⟨by show (0 : Int) ≤ r; omega, Int.le_refl _⟩
theorem wl_want {n : Nat} (hn : n < 8) : want (wl n 0) (((n + 1 : Nat) : Int) * 65536) = wl (n + 1) 0 := by
  unfold want
  rw [if_pos (can_next (wl_names n 0) (by omega))]
  unfold wl
  rw [List.range_succ, List.map_append]
  rfl
theorem wl_tick {n : Nat} (hn : n ≤ 8) {nd : Int} (h : ¬ nd ≤ 1) (r : Int) : tick nd (wl n r) = wl n (r + 1) := by
  unfold tick
  rw [if_neg h, List.take_of_length_le (by rw [wl_len]; exact hn), List.drop_of_length_le (by rw [wl_len]; exact hn), List.append_nil]
  unfold wl
  rw [List.map_map]
  rfl
theorem wl_asks {n : Nat} (hn : n ≤ 8) {me nd : Int} (h : ¬ nd ≤ 1) (r : Int) : asks me nd (wl n r) = (List.range n).map fun (j : Nat) => (peer me nd r, ((j + 1 : Nat) : Int) * 65536) := by
  unfold asks
  rw [if_neg h, List.take_of_length_le (by rw [wl_len]; exact hn)]
  unfold wl
  rw [List.map_map]
  rfl
def cnt (me nd : Int) (r : Nat) (t : Int) : Nat := ((List.range r).filter fun (j : Nat) => peer me nd j == t).length
theorem cnt_succ (me nd : Int) (r : Nat) (t : Int) : cnt me nd (r + 1) t = cnt me nd r t + if peer me nd r = t then 1 else 0 := by
  unfold cnt
  rw [List.range_succ, List.filter_append, List.length_append]
  congr 1
  by_cases h : peer me nd r = t
  · simp [h]
  · simp [h]
theorem cnt_le (me nd : Int) (r : Nat) (t : Int) : cnt me nd r t ≤ r := by
  unfold cnt
  have := List.length_filter_le (fun (j : Nat) => peer me nd j == t) (List.range r)
  simpa using this
theorem cnt_end {nd me t : Nat} (h1 : 2 ≤ nd) (h2 : nd ≤ 7) (h3 : me < nd) (h4 : t < nd) : (((cnt me nd (nd - 1) t : Nat) : Int) == 1) = ((t : Int) != (me : Int)) := by
  have h : ∀ nd : Fin 8, ∀ me : Fin 8, ∀ t : Fin 8, 2 ≤ nd.val → me.val < nd.val → t.val < nd.val → (((cnt me.val nd.val (nd.val - 1) t.val : Nat) : Int) == 1) = ((t.val : Int) != (me.val : Int)) := by decide +kernel
  exact h ⟨nd, by omega⟩ ⟨me, by omega⟩ ⟨t, by omega⟩ h1 h3 h4
theorem peer_ok {nd me r : Nat} (h1 : 2 ≤ nd) (h2 : nd ≤ 7) (h3 : me < nd) (h4 : r < nd - 1) : 0 ≤ peer me nd r ∧ peer me nd r < nd ∧ peer me nd r ≠ me := by
  have h : ∀ nd : Fin 8, ∀ me : Fin 8, ∀ r : Fin 8, 2 ≤ nd.val → me.val < nd.val → r.val < nd.val - 1 → 0 ≤ peer me.val nd.val r.val ∧ peer me.val nd.val r.val < nd.val ∧ peer me.val nd.val r.val ≠ me.val := by decide +kernel
  exact h ⟨nd, by omega⟩ ⟨me, by omega⟩ ⟨r, by omega⟩ h1 h3 h4
def arr (f : Nat → Nat → Int) : List Value := (List.range 56).map fun (c : Nat) => .int .i64 (f (c / 8) (c % 8))
theorem arr_len (f : Nat → Nat → Int) : (arr f).length = 56 := by simp [arr]
theorem arr_lt {f : Nat → Nat → Int} {t k : Nat} (ht : t < 7) (hk : k < 8) : t * 8 + k < (arr f).length := by rw [arr_len]; omega
theorem arr_get {f : Nat → Nat → Int} {t k : Nat} (ht : t < 7) (hk : k < 8) : (arr f)[t * 8 + k]? = some (.int .i64 (f t k)) := by
  unfold arr
  rw [List.getElem?_map, List.getElem?_range (by omega)]
  simp only [Option.map_some]
  rw [show (t * 8 + k) / 8 = t from by omega, show (t * 8 + k) % 8 = k from by omega]
theorem arr_set {f : Nat → Nat → Int} {t k : Nat} {v : Int} (ht : t < 7) (hk : k < 8) : (arr f).set (t * 8 + k) (.int .i64 v) = arr fun a b => if a = t ∧ b = k then v else f a b := by
  refine List.ext_getElem? fun c => ?_
  rw [List.getElem?_set]
  by_cases hc : c < 56
  · have hg : ∀ g : Nat → Nat → Int, (arr g)[c]? = some (.int .i64 (g (c / 8) (c % 8))) := fun g => by
      unfold arr
      rw [List.getElem?_map, List.getElem?_range hc]; rfl
    by_cases he : t * 8 + k = c
    · rw [if_pos he, if_pos (by rw [arr_len]; exact he ▸ hc), hg, if_pos ⟨by omega, by omega⟩]
    · rw [if_neg he, hg, hg, if_neg (by omega)]
  · rw [if_neg (by omega), List.getElem?_eq_none (by rw [arr_len]; omega), List.getElem?_eq_none (by rw [arr_len]; omega)]
theorem arr_congr {f g : Nat → Nat → Int} (h : ∀ a b, a < 7 → b < 8 → f a b = g a b) : arr f = arr g := by
  unfold arr
  refine List.map_congr_left fun c hc => ?_
  rw [List.mem_range] at hc
  rw [h _ _ (by omega) (by omega)]
theorem arr_zero : arr (fun _ _ => 0) = List.replicate 56 (.int .i64 0) := by kernel_rfl
def fm (me nd : Int) (n r i : Nat) (a b : Nat) : Int := if b < n then (((if b < i then cnt me nd (r + 1) a else cnt me nd r a) : Nat) : Int) else 0
theorem fm_zero (me nd : Int) (n a b : Nat) : fm me nd n 0 0 a b = 0 := by unfold fm cnt; split <;> simp
theorem fm_next (me nd : Int) (n r : Nat) (a b : Nat) : fm me nd n r n a b = fm me nd n (r + 1) 0 a b := by
  unfold fm
  by_cases h : b < n
  · rw [if_pos h, if_pos h, if_pos h, if_neg (by omega)]
  · rw [if_neg h, if_neg h]
theorem fm_step {me nd : Int} {n r i t : Nat} (hi : i < n) (ht : peer me nd r = (t : Int)) : (fun a b => if a = t ∧ b = i then fm me nd n r i t i + 1 else fm me nd n r i a b) = fm me nd n r (i + 1) := by
  funext a b
  unfold fm
  by_cases hb : b = i
  · subst hb
    rw [if_pos hi, if_neg (Nat.lt_irrefl b), if_pos hi, if_neg (Nat.lt_irrefl b), if_pos hi, if_pos (Nat.lt_succ_self b), cnt_succ]
    by_cases ha : a = t
    · subst ha
      rw [if_pos ⟨rfl, rfl⟩, if_pos ht]; simp
    · rw [if_neg (fun h => ha h.1), if_neg (by rw [ht]; omega)]; simp
  · rw [if_neg (fun h => hb h.2)]
    by_cases h1 : b < i
    · rw [if_pos h1, if_pos (show b < i + 1 by omega)]
    · rw [if_neg h1, if_neg (show ¬ b < i + 1 by omega)]
theorem fm_le (me nd : Int) (n r i a b : Nat) : 0 ≤ fm me nd n r i a b ∧ fm me nd n r i a b ≤ r + 1 := by
  unfold fm
  have h1 := cnt_le me nd (r + 1) a
  have h2 := cnt_le me nd r a
  split
  · split <;> omega
  · omega
end Fe
theorem runs_aidxM {P : Program} {o : Oper} {ρ : Operand → Value} {w : World} {t e : TypeId} {n g off m i c : Nat} (hu : P.underlying t = some (.array n e)) (hs : (P.info? e).map (·.size) = some m) (hc : c = off + i * m) (x y : Operand) (ho : o.op = .indexAddr t x y)
    (hx : ρ x = .pointer (some ⟨g, off, none⟩)) (hy : ρ y = .int .i64 i) (hi : i < n) : Runs P o ρ w (.pointer (some ⟨g, c, none⟩)) := by
  cases hq : P.info? e with
  | none => rw [hq] at hs; cases hs
  | some i0 =>
    rw [hq] at hs
    have h3 : i0.size = m := by simpa using hs
    subst hc
    unfold Runs execOp
    simp [ho, hx, hy, Instr.indexAt, run_underlying hu, sizeOf, typeInfo, hq, h3, go_sem, hi, addr_add_off]
theorem runs_tdivF {o : Oper} {ρ : Operand → Value} {w : World} {ty ty' : TypeId} (x y : Operand) {a b r : Int} (ho : o.op = .binOp .quo ty x y ty') (hx : ρ x = .int .i64 a) (hy : ρ y = .int .i64 b) (hb : b ≠ 0) (hr : wrap64 (a.tdiv b) = r) : Runs Try.prog o ρ w (.int .i64 r) := by
  subst hr
  unfold Runs execOp
  simp [ho, hx, hy, go_sem, hb]
  rw [IntKind.wrap_i64]; unfold wrap64; rfl
theorem Try.agA : AgT Try.prog 50 56 (Fe.arr fun _ _ => 0) := AgT.of (by kernel_rfl) (by rw [Fe.arr_zero]; kernel_rfl) rfl
theorem w_agzero {P : Program} {ops : Array Oper} {rest : List Oper} {o : Oper} {a : Act} {Q : Exit → Act → World → Prop} {w : World} {t e : TypeId} {n m : Nat} {zs : List Value} (E : AgT P t n zs) (hu : P.underlying t = some (.array m e)) (he : (P.info? e).isSome = true) (hgd : o.guard = none) (ho : o.op = .build t #[])
    (k : wpList P ops Q rest (a.put o.dst (.agg zs.toArray)) w) : wpList P ops Q (o :: rest) a w := by
  refine wpList_runs hgd ?_ k
  obtain ⟨i0, hi, hz, _⟩ := E.info
  obtain ⟨i1, hi1⟩ := Option.isSome_iff_exists.1 he
  unfold Runs execOp
  simp [ho, Instr.build, zeroValue, typeInfo, sizeOf, hi, hz, hi1, run_underlying hu, Instr.fill, Value.cells]
theorem w_aidxM {P : Program} {ops : Array Oper} {rest : List Oper} {o : Oper} {a : Act} {Q : Exit → Act → World → Prop} {w : World} {t e : TypeId} {n g off m i c : Nat} (hu : P.underlying t = some (.array n e)) (hs : (P.info? e).map (·.size) = some m) (hc : c = off + i * m) (x y : Operand) (hgd : o.guard = none) (ho : o.op = .indexAddr t x y)
    (hx : a.eval x = .pointer (some ⟨g, off, none⟩)) (hy : a.eval y = .int .i64 i) (hi : i < n) (k : wpList P ops Q rest (a.put o.dst (.pointer (some ⟨g, c, none⟩))) w) : wpList P ops Q (o :: rest) a w := wpList_runs hgd (runs_aidxM hu hs hc x y ho hx hy hi) k
theorem fetchAll_law (me nd nms : Int) (W : World) : Calls Try.prog 6 #[.int .i64 me, .int .i64 nd, .int .i64 nms] W fun e w' => e = .returned (.bool true) ∧ Ext W w' := by
  refine z2cz ?_
  go_enter Try.func6, Try.ntmps6
  go_upto_region 3 with (first | (go_at_call 15; refine (fetchAlive_any _).mono ?_; rintro e w2 ⟨rfl, hX⟩) | fail)
  by_cases h1 : nd < 2
  · have d1 : decide (nd < 2) = true := decide_eq_true h1
    clear h1
    go_wp2_with (first | go_big_skip | fail)
    go_ret
    exact z2dz
  have d1 : decide (nd < 2) = false := decide_eq_false h1
  by_cases h2 : 7 < nd
  · have d2 : decide (7 < nd) = true := decide_eq_true h2
    clear h1 h2
    go_wp2_with (first | go_big_skip | fail)
    go_ret
    exact z2dz
  have d2 : decide (7 < nd) = false := decide_eq_false h2
  by_cases h3 : me < 0
  · have d3 : decide (me < 0) = true := decide_eq_true h3
    clear h1 h2 h3
    go_wp2_with (first | go_big_skip | fail)
    go_ret
    exact z2dz
  have d3 : decide (me < 0) = false := decide_eq_false h3
  by_cases h4 : nd ≤ me
  · have d4 : decide (nd ≤ me) = true := decide_eq_true h4
    clear h1 h2 h3 h4
    go_wp2_with (first | go_big_skip | fail)
    go_ret
    exact z2dz
  have d4 : decide (nd ≤ me) = false := decide_eq_false h4
  by_cases h5 : nms < 1
  · have d5 : decide (nms < 1) = true := decide_eq_true h5
    clear h1 h2 h3 h4 h5
    go_wp2_with (first | go_big_skip | fail)
    go_ret
    exact z2dz
  have d5 : decide (nms < 1) = false := decide_eq_false h5
  by_cases h6 : 8 < nms
  · have d6 : decide (8 < nms) = true := decide_eq_true h6
    clear h1 h2 h3 h4 h5 h6
    go_wp2_with (first | go_big_skip | fail)
    go_ret
    exact z2dz
  have d6 : decide (8 < nms) = false := decide_eq_false h6
  obtain ⟨n, rfl⟩ : ∃ n : Nat, nms = (n : Int) := ⟨nms.toNat, by omega⟩
  obtain ⟨N, rfl⟩ : ∃ N : Nat, nd = (N : Int) := ⟨nd.toNat, by omega⟩
  obtain ⟨M, rfl⟩ : ∃ M : Nat, me = (M : Int) := ⟨me.toNat, by omega⟩
  have hn8 : n ≤ 8 := by omega
  have hN7 : N ≤ 7 := by omega
  have hN2 : 2 ≤ N := by omega
  have hMN : M < N := by omega
  obtain ⟨nd, hnd0⟩ : ∃ nd : Int, nd = (N : Int) := ⟨_, rfl⟩
  obtain ⟨me, hme0⟩ : ∃ me : Int, me = (M : Int) := ⟨_, rfl⟩
  rw [← hnd0, ← hme0]
  rw [← hnd0] at d1 d2 d4
  rw [← hme0] at d3 d4
  have hnd := hide_ (show 1 ≤ nd ∧ nd ≤ 7 from by omega)
  have hme := hide_ (show 0 ≤ me ∧ me < nd from by omega)
  have hnd1 := hide_ (show ¬ nd ≤ 1 from by omega)
  have hndN := hide_ hnd0
  have hmeM := hide_ hme0
  have hn8' := hide_ hn8
  clear h1 h2 h3 h4 h5 h6 hnd0 hme0
  go_wp2_with (first | go_big_skip | (go_at_call 16; refine (FNew_any me nd).mono ?_; rintro e w1 ⟨p, rfl, hP, hx, hp⟩; have hO : Out W (fun k => k = p) w1 := ⟨hX.trans hx, fun k hk => hk ▸ Nat.le_trans hX.size hp⟩; clear hx hp hX) | fail)
  go_loopw [8] (fun i wr => ∃ (k : Nat) (F : Nat → Prop), i = .int .i64 (k : Int) ∧ k ≤ n ∧ Ft F wr p me nd (Fe.wl k 0) ∧ Out W F wr) (fun i _ => n - (RowKit.intOf i).toNat)
  case atStart => exact ⟨0, _, rfl, by omega, hP, hO⟩
  case round =>
    clear hP hO
    obtain ⟨k, F, rfl, hk, hP, hO⟩ := hrel
    by_cases hge : n ≤ k
    rotate_left
    · have hlt : k < n := by omega
      have t2 : decide (k < n) = true := decide_eq_true hlt
      have hok := hide_ (Fe.wl_ok (n := k) (by omega) 0)
      have hcan := hide_ (Fe.can_next (Fe.wl_names k 0) (by omega))
      have hnx := hide_ (Fe.wl_want (n := k) (by omega))
      have hI := hide_ (show I64 (((k + 1 : Nat) : Int) * 65536) from by unfold I64; omega)
      have hz : wrap64 (65536 * (k : Int)) = 65536 * (k : Int) := by unfold wrap64; omega
      have hz2 : wrap64 (65536 + 65536 * (k : Int)) = 65536 + 65536 * (k : Int) := by unfold wrap64; omega
      have hz3 := hide_ (show (65536 + 65536 * (k : Int)) = ((k + 1 : Nat) : Int) * 65536 from by omega)
      have hkb : k ≤ 7 := by omega
      have hlt' := hide_ hlt
      clear hge hlt
      go_wp2_with (first | (go_at_call 17; rw [hz3.out]; refine (FWant_any hP hok.out hI.out hcan.out).mono ?_; rintro e w2 ⟨F1, rfl, hP2, hU⟩; rw [hnx.out] at hP2; replace hP := hP2; replace hO := hO.upd hU; clear hP2 hU) | fail)
      go_roundw
      case rel => exact ⟨k + 1, F1, by go_num, hlt'.out, hP, hO⟩
      case measure => have := hlt'.out; simp [RowKit.intOf]; omega
    obtain rfl : k = n := by omega
    have t2 : decide (k < k) = false := by simp
    clear hge hk
    go_wp2_with ((first | ((with_reducible refine at_sbuild ?_); refine w_agzero Try.agA Try.underlying50 (by kernel_rfl) rfl rfl ?_) | ((with_reducible refine at_alloc ?_); refine w_agalloc Try.agA rfl rfl ?_; intro g9 w2 hg9 hxa f9) | ((with_reducible refine at_store ?_); refine w_agput Try.agA _ _ (us := Fe.arr fun _ _ => 0) rfl rfl rfl rfl rfl f9 (Fe.arr_len _) (Fe.arr_len _) (by intro u hu; obtain ⟨c, _, rfl⟩ := List.mem_map.1 hu; rfl) ?_; intro w3 hm3 f93; have hx := hm3.after hxa (fun i e => e ▸ hg9); have hn9 := hide_ (show ¬ F g9 from fun h => by have := hP.lt g9 h; omega); have hW9 := hide_ (show W.heap.size ≤ g9 from Nat.le_trans hO.ext.size hg9); replace hP := hP.ext hx; replace hO := hO.extend hx; replace f9 := f93; clear hx hm3 hxa f93 hg9) | fail) <;> (try refine z0z ?_))
    have f9z := hide_ (show Fs w3 g9 (Fe.arr (Fe.fm me nd k 0 0)) from (by rw [Fe.arr_congr fun a b _ _ => Fe.fm_zero me nd k a b]; exact f9))
    clear f9
    go_loopw [10] (fun i wr => ∃ (r : Nat) (F : Nat → Prop), i = .int .i64 ((r + 1 : Nat) : Int) ∧ r ≤ N - 1 ∧ Ft F wr p me nd (Fe.wl k (r : Int)) ∧ Out W F wr ∧ Fs wr g9 (Fe.arr (Fe.fm me nd k r 0)) ∧ ¬ F g9) (fun i _ => N - (RowKit.intOf i).toNat)
    case atStart => exact ⟨0, F, by go_num, by omega, hP, hO, f9z.out, hn9.out⟩
    case round =>
      clear hP hO f9z hn9 F
      obtain ⟨r, F, rfl, hr, hP, hO, f9, hn90⟩ := hrel
      have hn9 := hide_ hn90
      by_cases hge : N - 1 ≤ r
      · obtain rfl : r = N - 1 := by omega
        have t3 : decide ((((N - 1 : Nat) : Int) + 1) < nd) = false := decide_eq_false (by rw [hndN.out]; omega)
        have hend := hide_ (show ∀ t : Nat, t < N → ∀ b : Nat, b < k → ((Fe.fm me nd k (N - 1) 0 t b == 1) = ((t : Int) != me)) from fun t ht b hb => by
          unfold Fe.fm
          rw [if_pos hb, if_neg (Nat.not_lt_zero b), hmeM.out, hndN.out]
          exact Fe.cnt_end hN2 hN7 hMN ht)
        clear hge hr hn90
        go_wp2
        have hX := Ext.refl wr
        obtain ⟨wz, hwz⟩ : ∃ wz, wz = wr := ⟨_, rfl⟩
        subst hwz
        have f9' := hide_ f9
        have hO' := hide_ hO
        clear f9 hO hP
        go_loopw [14] (fun i wr => ∃ t : Nat, i = .int .i64 (t : Int) ∧ t ≤ N ∧ Ext wz wr) (fun i _ => N - (RowKit.intOf i).toNat)
        case atStart => exact ⟨0, rfl, by omega, hX⟩
        case round =>
          clear hX
          obtain ⟨t, rfl, ht, hX⟩ := hrel
          by_cases hge : N ≤ t
          · have t4 : decide ((t : Int) < nd) = false := decide_eq_false (by rw [hndN.out]; omega)
            clear hge
            go_wp2
            go_ret
            exact Keep.intro ⟨rfl, hO'.out.ext.trans hX⟩
          have hlt : t < N := by omega
          have t4 : decide ((t : Int) < nd) = true := decide_eq_true (by rw [hndN.out]; omega)
          have ht7 := hide_ (show t < 7 from by omega)
          have htb : t ≤ 7 := by omega
          have hltN := hide_ hlt
          have hent := hide_ (hend.out t hlt)
          clear hge hlt
          go_wp2
          go_loopw [15] (fun i wr => ∃ b : Nat, i = .int .i64 (b : Int) ∧ b ≤ k ∧ Ext wz wr) (fun i _ => k - (RowKit.intOf i).toNat)
          case atStart => exact ⟨0, rfl, by omega, hX⟩
          case round =>
            clear hX
            obtain ⟨b, rfl, hb, hX⟩ := hrel
            by_cases hge : k ≤ b
            · have t5 : decide (b < k) = false := decide_eq_false (by omega)
              clear hge
              go_wp2
              go_roundw
              case rel => exact ⟨t + 1, by go_num, hltN.out, hX⟩
              case measure => have := hltN.out; simp [RowKit.intOf]; omega
            have hlt : b < k := by omega
            have t5 : decide (b < k) = true := decide_eq_true hlt
            have hb8 := hide_ (show b < 8 from by omega)
            have hbb : b ≤ 8 := by omega
            have hbk := hide_ hlt
            obtain ⟨z, hz0⟩ : ∃ z, Fe.fm me nd k (N - 1) 0 t b = z := ⟨_, rfl⟩
            have hz := hide_ hz0
            have hq0 := hent.out b hlt
            rw [hz0] at hq0
            cases hq : (z == 1)
            all_goals
              rw [hq] at hq0
              have hq1 := hq0.symm
              clear hge hlt hz0 hq0
            all_goals go_wp2_with ((first | ((with_reducible refine at_idx ?_); refine w_aidxM (i := t) (m := 8) (c := t * 8) Try.underlying50 (by kernel_rfl) (by omega) _ _ rfl rfl rfl rfl ht7.out ?_) | ((with_reducible refine at_idx ?_); refine w_aidxM (off := t * 8) (m := 1) (i := b) (c := t * 8 + b) Try.underlying49 (by kernel_rfl) (by omega) _ _ rfl rfl rfl rfl hb8.out ?_) | ((with_reducible refine at_load ?_); refine w_fload _ (u := .int .i64 (Fe.fm me nd k (N - 1) 0 t b)) rfl rfl rfl (f9'.out.ext hX) (Fe.arr_get ht7.out hb8.out) (agg_of (by kernel_rfl)) ?_; rw [hz.out]) | fail) <;> (try simp only [Act.put, List.setIfInBounds_toArray, List.set_cons_zero, List.set_cons_succ]))
            all_goals go_roundw
            all_goals first
              | exact ⟨b + 1, by go_num, hbk.out, hX⟩
              | (have := hbk.out; simp [RowKit.intOf]; omega)
      have hlt : r < N - 1 := by omega
      have t3 : decide (((r : Int) + 1) < nd) = true := decide_eq_true (by rw [hndN.out]; omega)
      obtain ⟨pr, hpr0⟩ : ∃ pr, Fe.peer me nd r = pr := ⟨_, rfl⟩
      have hpk : 0 ≤ pr ∧ pr < nd ∧ pr ≠ me := by
        have := Fe.peer_ok hN2 hN7 hMN hlt
        rw [← hmeM.out, ← hndN.out, hpr0] at this
        exact this
      obtain ⟨t, ht0⟩ : ∃ t : Nat, pr = (t : Int) := ⟨pr.toNat, by omega⟩
      have hpr := hide_ ht0
      have ht7 := hide_ (show t < 7 from by have := hnd.out; omega)
      have q1 : decide (pr < 0) = false := decide_eq_false (by omega)
      have q2 : decide (nd ≤ pr) = false := decide_eq_false (by omega)
      have q3 : (pr == me) = false := beq_eq_false_iff_ne.2 hpk.2.2
      have q4 : (me != me) = false := by simp
      have hrb : r ≤ 7 := by omega
      have hok := hide_ (Fe.wl_ok hn8'.out r)
      obtain ⟨A, hA0⟩ : ∃ A, A = (List.range k).map fun (j : Nat) => (pr, ((j + 1 : Nat) : Int) * 65536) := ⟨_, rfl⟩
      have hasks := hide_ (show Fe.asks me nd (Fe.wl k (r : Int)) = A from by rw [Fe.wl_asks hn8'.out (by have := hnd1.out; omega), hpr0, hA0])
      have htick := hide_ (show Fe.tick nd (Fe.wl k (r : Int)) = Fe.wl k ((r + 1 : Nat) : Int) from by rw [Fe.wl_tick hn8'.out (by have := hnd1.out; omega)]; rfl)
      have hAl := hide_ (show A.length = k from by rw [hA0]; simp)
      have hA := hide_ hA0
      have hkk : (((k : Nat) : Int) != ((k : Nat) : Int)) = false := by simp
      have hstep := hide_ (show ∀ i, i < k → (fun a b => if a = t ∧ b = i then Fe.fm me nd k r i t i + 1 else Fe.fm me nd k r i a b) = Fe.fm me nd k r (i + 1) from fun i hi => Fe.fm_step hi (by rw [hpr0, ht0]))
      have hnext := hide_ (show Fe.arr (Fe.fm me nd k r k) = Fe.arr (Fe.fm me nd k (r + 1) 0) from Fe.arr_congr fun a b _ _ => Fe.fm_next me nd k r a b)
      have hlt' := hide_ hlt
      clear hge hlt hpk hpr0 ht0 hA0 hn90 hr
      go_wp2_with ((first | (go_at_call 18; refine (FTick_any hP hok.out (by omega) hnd.out hme.out).mono ?_; rintro e w4 ⟨v4, rfl, hP2, hr40, hm⟩; rw [hasks.out] at hr40; rw [htick.out] at hP2; have hr4 := hide_ (show RowN (fun q => q ≠ g9) w4 59 14 v4 (A.map (askR me)) from hr40.mono fun q hq e => by have := f9.lt; omega); have hn94 := hide_ hn9.out; replace f9 := f9.mod hm hn9.out; replace hP := hP2; replace hO := hO.upd ⟨hm, fun _ h => .inl h⟩; clear hr40 hm hP2) | ((with_reducible refine at_bi ?_); (try refine w_yes _ _ _ rfl rfl rfl ?_); refine w_rlen Try.elAt _ rfl rfl rfl (at_recs hr4.out) ?_; rw [hAl.out]) | fail) <;> (try refine z0z ?_))
      go_loopw [68] (fun i wr => ∃ i0 : Nat, i = .int .i64 i0 ∧ i0 ≤ k ∧ RowN (fun q => q ≠ g9) wr 59 14 v4 (A.map (askR me)) ∧ Ft F wr p me nd (Fe.wl k ((r + 1 : Nat) : Int)) ∧ Out W F wr ∧ Fs wr g9 (Fe.arr (Fe.fm me nd k r i0))) (fun i _ => k - (RowKit.intOf i).toNat)
      case atStart => exact ⟨0, rfl, Nat.zero_le _, hr4.out, hP, hO, f9⟩
      case round =>
        clear hP hO f9
        obtain ⟨i, rfl, hi, hr5, hP, hO, f9⟩ := hrel
        by_cases hge : k ≤ i
        · obtain rfl : i = k := by omega
          have t4 : decide (i < i) = false := by simp
          have f9n := hide_ (show Fs wr g9 (Fe.arr (Fe.fm me nd i (r + 1) 0)) from hnext.out ▸ f9)
          clear hge hi f9
          go_wp2
          go_roundw
          case rel => exact ⟨r + 1, F, by go_num, by have := hlt'.out; omega, hP, hO, f9n.out, hn94.out⟩
          case measure => have := hlt'.out; simp [RowKit.intOf]; omega
        have hlt : i < k := by omega
        have t4 : decide (i < k) = true := decide_eq_true hlt
        obtain ⟨y2, hy20⟩ : ∃ y2 : Int, ((i + 1 : Nat) : Int) * 65536 = y2 := ⟨_, rfl⟩
        have hy := hide_ (show A[i]? = some (pr, y2) from by rw [hA.out, List.getElem?_map, List.getElem?_range hlt, ← hy20]; rfl)
        have hy2 := hide_ (show wrap64 (y2.tdiv 65536) = ((i + 1 : Nat) : Int) from by rw [← hy20, Int.mul_tdiv_cancel _ (by decide)]; unfold wrap64; omega)
        have hi8 := hide_ (show i < 8 from by have := hn8'.out; omega)
        have hib : i ≤ 8 := by have := hn8'.out; omega
        have hst := hide_ (hstep.out i hlt)
        have hltk := hide_ hlt
        obtain ⟨fc, hfc0⟩ : ∃ fc, Fe.fm me nd k r i = fc := ⟨_, rfl⟩
        have hfcb : 0 ≤ fc t i ∧ fc t i ≤ 100 := by have := Fe.fm_le me nd k r i t i; rw [hfc0] at this; omega
        rw [hfc0] at f9 hst
        clear hge hlt hy20 hfc0
        go_wp2_with ((first | ((with_reducible refine at_idx ?_); refine w_atidx Try.elAt _ _ i rfl rfl rfl rfl (at_recs hr5) (Ext.refl _) hy.out ?_; intro pa hrow0; have hrow := hide_ hrow0; clear hrow0) | ((with_reducible refine at_load ?_); refine w_ploadN Try.stAt _ rfl rfl rfl hrow.out rfl ?_) | ((with_reducible refine at_alloc ?_); refine w_allocN Try.stAt rfl rfl ?_; intro g13 w5 hg13 hxa f13) | ((with_reducible refine at_store ?_); refine w_astoreN Try.stAt _ _ (us := askR me (pr, y2)) rfl rfl rfl rfl rfl f13 rfl rfl (at_one _ _) ?_; intro w6 hm6 f6; have hx := hm6.after hxa (fun i e => e ▸ hg13); have h139 := hide_ (show ¬ g9 = g13 from fun e => by have := f9.lt; omega); replace hr5 := hr5.ext hx; replace hP := hP.ext hx; replace hO := hO.extend hx; replace f9 := f9.ext hx; replace f13 := f6; clear hx hm6 hxa f6 hg13) | ((with_reducible refine at_field ?_); (try refine w_yes _ _ _ rfl rfl rfl ?_); refine w_fieldB (t := 59) (i := 0) (off := 0) (by kernel_rfl) rfl _ _ rfl rfl rfl ?_) | ((with_reducible refine at_field ?_); (try refine w_yes _ _ _ rfl rfl rfl ?_); refine w_fieldB (t := 59) (i := 1) (off := 1) (by kernel_rfl) rfl _ _ rfl rfl rfl ?_) | ((with_reducible refine at_field ?_); (try refine w_yes _ _ _ rfl rfl rfl ?_); refine w_fieldB (t := 57) (i := 1) (off := 1) (by kernel_rfl) rfl _ _ rfl rfl rfl ?_) | ((with_reducible refine at_load ?_); (try refine w_yes _ _ _ rfl rfl rfl ?_); refine w_fload _ (i := 0) (u := .int .i64 pr) rfl rfl rfl f13 rfl (agg_of (by kernel_rfl)) ?_) | ((with_reducible refine at_load ?_); (try refine w_yes _ _ _ rfl rfl rfl ?_); refine w_fload _ (i := 2) (u := .int .i64 me) rfl rfl rfl f13 rfl (agg_of (by kernel_rfl)) ?_) | fail) <;> (try refine z0z ?_))
        refine zpz ?_; intro wd hxd; have F13 := f13.ext hxd; have F9 := f9.ext hxd
        refine Ph.gate 0 13 (by kernel_rfl) ?_
        refine LinL.step (s := (.val (.pointer (some ⟨g13, 0, none⟩)))) [(13, none)] rfl (by kernel_rfl) (op_runs rfl fun σ w' hx hg => ⟨_, runs_fieldB (ρ := σ.eval) (w := w') (i := 0) (off := 0) (c := 0) (by kernel_rfl) rfl (.tmp 13) g13 rfl hg.1, rfl⟩) ?_
        refine LinL.step (s := (.val (.int .i64 pr))) [(94, some 0)] rfl (by kernel_rfl) (op_runs rfl fun σ w' hx hg => ⟨_, runs_fload (ρ := σ.eval) (w := w') (.tmp 94) rfl hg.1 (agg_of (by kernel_rfl) _) (F13.ext hx) rfl, rfl⟩) ?_
        refine LinL.step (s := (.val (.pointer (some ⟨g13, 1, none⟩)))) [(13, none)] rfl (by kernel_rfl) (op_runs rfl fun σ w' hx hg => ⟨_, runs_fieldB (ρ := σ.eval) (w := w') (i := 1) (off := 1) (c := 1) (by kernel_rfl) rfl (.tmp 13) g13 rfl hg.1, rfl⟩) ?_
        refine LinL.step (s := (.val (.pointer (some ⟨g13, 5, none⟩)))) [(96, some 0)] rfl (by kernel_rfl) (op_runs rfl fun σ w' hx hg => ⟨_, runs_fieldB (ρ := σ.eval) (w := w') (i := 4) (off := 4) (c := 5) (by kernel_rfl) rfl (.tmp 96) g13 rfl hg.1, rfl⟩) ?_
        refine LinL.step (s := (.val (.int .i64 y2))) [(97, some 0)] rfl (by kernel_rfl) (op_runs rfl fun σ w' hx hg => ⟨_, runs_fload (ρ := σ.eval) (w := w') (.tmp 97) rfl hg.1 (agg_of (by kernel_rfl) _) (F13.ext hx) rfl, rfl⟩) ?_
        refine LinL.step (s := (.val (.int .i64 ((i + 1 : Nat) : Int)))) [(98, some 0)] rfl (by kernel_rfl) (op_runs rfl fun σ w' hx hg => ⟨_, runs_tdivF (ρ := σ.eval) (w := w') (.tmp 98) (.const (.int .i64 65536)) rfl hg.1 rfl (by decide) hy2.out, rfl⟩) ?_
        refine LinL.step (s := (.val (.int .i64 (i : Nat)))) [(99, some 0)] rfl (by kernel_rfl) (op_runs rfl fun σ w' hx hg => ⟨_, runs_sub (ρ := σ.eval) (w := w') (.tmp 99) (.const (.int .i64 1)) ((i : Nat)) (by omega) (by omega) rfl hg.1 rfl, rfl⟩) ?_
        refine LinL.step (s := (.val (.pointer (some ⟨g9, t * 8, none⟩)))) [(9, none), (95, some 5)] rfl (by kernel_rfl) (op_runs rfl fun σ w' hx hg => ⟨_, runs_aidxM (ρ := σ.eval) (w := w') (i := t) (m := 8) Try.underlying50 (by kernel_rfl) (by omega) (.tmp 9) (.tmp 95) rfl hg.1 (by rw [show σ.eval (.tmp 95) = .int .i64 pr from hg.2.1, hpr.out]) ht7.out, rfl⟩) ?_
        refine LinL.step (s := (.val (.pointer (some ⟨g9, t * 8 + i, none⟩)))) [(101, some 0), (100, some 1)] rfl (by kernel_rfl) (op_runs rfl fun σ w' hx hg => ⟨_, runs_aidxM (ρ := σ.eval) (w := w') (i := i) (m := 1) Try.underlying49 (by kernel_rfl) (by omega) (.tmp 101) (.tmp 100) rfl hg.1 hg.2.1 hi8.out, rfl⟩) ?_
        refine LinL.step (s := (.val (.int .i64 (fc t i)))) [(102, some 0)] rfl (by kernel_rfl) (op_runs rfl fun σ w' hx hg => ⟨_, runs_fload (ρ := σ.eval) (w := w') (.tmp 102) rfl hg.1 (agg_of (by kernel_rfl) _) (F9.ext hx) (Fe.arr_get ht7.out hi8.out), rfl⟩) ?_
        refine LinL.step (s := (.val (.int .i64 (fc t i + 1)))) [(103, some 0)] rfl (by kernel_rfl) (op_runs rfl fun σ w' hx hg => ⟨_, runs_add (ρ := σ.eval) (w := w') (.tmp 103) (.const (.int .i64 1)) ((fc t i + 1)) (by omega) (by omega) rfl hg.1 rfl, rfl⟩) ?_
        refine LinL.step (s := (.val (.pointer (some ⟨g9, t * 8, none⟩)))) [(9, none), (95, some 9)] rfl (by kernel_rfl) (op_runs rfl fun σ w' hx hg => ⟨_, runs_aidxM (ρ := σ.eval) (w := w') (i := t) (m := 8) Try.underlying50 (by kernel_rfl) (by omega) (.tmp 9) (.tmp 95) rfl hg.1 (by rw [show σ.eval (.tmp 95) = .int .i64 pr from hg.2.1, hpr.out]) ht7.out, rfl⟩) ?_
        refine LinL.step (s := (.val (.pointer (some ⟨g9, t * 8 + i, none⟩)))) [(105, some 0), (100, some 5)] rfl (by kernel_rfl) (op_runs rfl fun σ w' hx hg => ⟨_, runs_aidxM (ρ := σ.eval) (w := w') (i := i) (m := 1) Try.underlying49 (by kernel_rfl) (by omega) (.tmp 105) (.tmp 100) rfl hg.1 hg.2.1 hi8.out, rfl⟩) ?_
        intro wN hxN
        refine z1dz ?_
        refine zhz ?_
        refine w_fstore _ _ (u := .int .i64 (fc t i + 1)) rfl rfl rfl rfl rfl (F9.ext hxN) (Fe.arr_lt ht7.out hi8.out) rfl rfl (by kernel_rfl) ?_; intro w9 hm9 f9n; rw [Fe.arr_set ht7.out hi8.out] at f9n
        show Ph Try.prog _ _ 14 _ _
        refine Ph.rest 14 0 (by kernel_rfl) ?_
        intro wM hxM
        refine z1az ?_
        rw [hst.out] at f9n
        have f9M := f9n.ext hxM
        have hpF : ∀ q, F q → ¬ q = g9 := fun q hq e => hn94.out (e ▸ hq)
        have hPM := (((hP.ext (hxd.trans hxN)).mod hm9 hpF).ext hxM)
        have hOM := ((hO.extend (hxd.trans hxN)).other hm9 fun q e => e ▸ hW9.out).extend hxM
        have hr5M := ((hr5.ext (hxd.trans hxN)).mod hm9 fun q hq e => hq e).ext hxM
        go_wp2
        go_roundw
        case rel => exact ⟨i + 1, by go_num, hltk.out, hr5M, hPM, hOM, f9M⟩
        case measure => have := hltk.out; simp [RowKit.intOf]; omega
theorem fetchAll_lifted (os : Os) (started : os.Started) (H : Type) (enc : TypeId × Value → H) :
    ReturnsInHanded {} Try.checked os 6 .any (Rows.fetchAllSpec.pre6 enc Try.prog Try.f6 Rows.fetchAllRow.domain false) (Rows.fetchAllSpec.post enc Try.prog Try.f6 false true false false) := by
  refine law_lifted (s := Rows.fetchAllSpec) (conds := Rows.fetchAllRow.domain) Try.func6 (by kernel_rfl) rfl (fun H ds h => by
      rw [show Try.f6.params.size = 3 from rfl] at h
      match ds, h with
      | [d0, d1, d2], _ => rfl) rfl rfl (by decide +kernel) os started H enc
    (ChangeSpec.witness6 (enc := enc) (C := Try.checked) false ⟨#[], #[.int .i64 0, .int .i64 0, .int .i64 0], []⟩ 8 (by kernel_rfl) (by kernel_rfl) (by kernel_rfl) (by kernel_rfl)) ?_
  intro W base args ds p hval hA hsz _
  have hp : Try.f6.params.toList = [3, 3, 3] := rfl
  rw [hp] at hA hsz
  obtain ⟨v0, v1, v2, d0, d1, d2, p0, p1, p2, rfl, rfl, rfl, h0, h1, h2⟩ := trodAll_three hA
  obtain ⟨a0, rfl, b0, c0⟩ := arg_int (hval 0 3 v0 rfl rfl) h0
  obtain ⟨a1, rfl, b1, c1⟩ := arg_int (hval 1 3 v1 rfl rfl) h1
  obtain ⟨a2, rfl, b2, c2⟩ := arg_int (hval 2 3 v2 rfl rfl) h2
  exact fetchAll_law a0 a1 a2 W
theorem fetchAll_holds : Rows.FetchAllSaid :=
  OpenClaim.holds_of_wide 6 Try.f6 rfl rfl rfl rfl rfl rfl rfl ⟨rfl, rfl, rfl, rfl, rfl⟩ rfl rfl rfl rfl rfl (by kernel_rfl) Try.func6 (by kernel_rfl)
    (of_decide_eq_true (by kernel_rfl)) (by unfold Func.isWrapper; first | (rw [if_pos (by decide +kernel)]; kernel_rfl) | (rw [if_neg (by decide +kernel)]; exact ⟨rfl, rfl⟩))
    (fun os started H enc _ => fetchAll_lifted os started H enc)
#print axioms fetchAll_holds
end Go.Proofs.Ytajkjiegcmpjaaa
