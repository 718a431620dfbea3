/- The statement TallyTurns: votes of unlike places may come in any order. -/
import Derived.Test.YtmhmkaginnddeaaTlV
import Derived.Test.YtmhmkaginnddeaaTlRa
import Derived.Test.YtmhmkaginnddeaaArgI
import Derived.Test.YtmhmkaginnddeaaSmT
namespace Go.Proofs.Ytmhmkaginnddeaa
set_option maxRecDepth 100000
open Go.RowKit Go.ChangeShapes Go.WideShapes Go.ChangeAt

theorem sameR {w : World} {va vb : Value} {l : List Int} (ha : Ints w va l) (hb : Ints w vb l) : Calls Try.prog 22 #[va, vb] w fun e w' => ∃ z, e = .returned z ∧ Ext w w' ∧ Sp.p (.val (.bool true)) z w' := by
  refine (SameInts_any va vb l w ha hb).mono ?_
  rintro e w' ⟨rfl, hx⟩
  exact ⟨_, rfl, hx, rfl⟩
/-- Of the same place. -/
def Plc (a b : VtD) : Prop := a.k = b.k ∧ a.w = b.w ∧ a.f = b.f
theorem apart_step {l : List VtD} {i : Nat} (hi : i < l.length) {d : VtD} (hd : l[i] = d) (h : Apart (l.take i)) (hn : ∀ x ∈ l.take i, ¬ Plc x d) : Apart (l.take (i + 1)) := by
  unfold Apart at *
  rw [List.take_add_one, List.getElem?_eq_getElem hi, hd, List.pairwise_append]
  refine ⟨h, List.pairwise_singleton _ _, fun a ha b hb => ?_⟩
  rw [Option.toList_some, List.mem_singleton] at hb
  subst hb
  exact hn a ha
theorem mem_take_step {l : List VtD} {j : Nat} (hj : j < l.length) {e : VtD} (he : l[j] = e) {p : VtD → Prop} (h : ∀ x ∈ l.take j, p x) (hp : p e) : ∀ x ∈ l.take (j + 1), p x := by
  intro x hx
  rw [List.take_add_one, List.getElem?_eq_getElem hj, he, List.mem_append, Option.toList_some, List.mem_singleton] at hx
  rcases hx with hx | rfl
  · exact h x hx
  · exact hp
theorem rev_step {l : List VtD} {i k : Nat} (h : l.length = i + k + 1) {d : VtD} (hd : l[i]'(by omega) = d) : l.reverse.take (k + 1) = l.reverse.take k ++ [d] := by
  rw [List.take_add_one, List.getElem?_eq_getElem (by simp; omega), List.getElem_reverse]
  congr 1
  rw [Option.toList_some, ← hd]
  congr 1
  congr 1
  omega

set_option maxRecDepth 100000 in
set_option maxHeartbeats 12800000 in
theorem tallyTurns_law (v0 v1 : Value) (t : List Int) (l : List VtD) (q : VtD) (W : World) (a0 : Ints W v0 t) (a1 : Recs 4 VtR W v1 l) (bq : q.Fit) :
    Calls Try.prog 5 #[v0, v1, .agg (vrow q).toArray] W fun e w' => e = .returned (.bool true) ∧ Ext W w' := by
  refine calls_keep ?_
  have hs := hide_ a0
  have hl := hide_ a1
  have hX := Ext.refl W
  have hone := hide_ (Sl.one' a0)
  by_cases hst0 : StOk t
  rotate_left
  · have hck := hide_ (show (chk t : Int) = 31 from by rw [chk_no hst0]; rfl)
    clear hst0 a0 a1 bq
    go_enter Try.func5, Try.ntmps5
    go_wp2_with ((first
      | go_big_skip
      | ((with_reducible refine at_box ?_); refine w_box _ (vrow q) rfl rfl rfl rfl ?_; intro b5 w1 hb5 hx f5; replace hX := hX.trans hx; clear hx)
      | (go_at_call 12; refine (tallyAlive_any _).mono ?_; rintro e w7 ⟨rfl, hx⟩; replace hX := hX.trans hx; clear hx)
      | (go_at_call 15; refine (checkB (hs.out.ext hX) hck.out).mono ?_; rintro e w7 ⟨rfl, hx⟩; replace hX := hX.trans hx; clear hx)
      | fail) <;> (try simp only [Act.put, List.setIfInBounds_toArray, List.set_cons_zero, List.set_cons_succ]))
    go_ret
    exact Keep.intro ⟨rfl, hX⟩
  have hck := hide_ (show (chk t : Int) = 0 from by rw [chk_ok hst0]; rfl)
  have hst := hide_ hst0
  have hdk := hide_ (show In64 q.k from bq.k)
  have hdw := hide_ (show In64 q.w from bq.w)
  have hfit := hide_ (show ∀ d ∈ l, d.Fit from Vts.fit a1)
  clear hst0 a0 a1 bq
  by_cases hbig : 60 < l.length
  · have t0 : decide ((60 : Int) < (l.length : Int)) = true := by simp; omega
    clear hbig
    go_enter Try.func5, Try.ntmps5
    go_wp2_with ((first
      | go_big_skip
      | ((with_reducible refine at_box ?_); refine w_box _ (vrow q) rfl rfl rfl rfl ?_; intro b5 w1 hb5 hx f5; replace hX := hX.trans hx; clear hx)
      | (go_at_call 12; refine (tallyAlive_any _).mono ?_; rintro e w7 ⟨rfl, hx⟩; replace hX := hX.trans hx; clear hx)
      | (go_at_call 15; refine (checkB (hs.out.ext hX) hck.out).mono ?_; rintro e w7 ⟨rfl, hx⟩; replace hX := hX.trans hx; clear hx)
      | ((with_reducible refine at_bi ?_); (try refine w_yes _ _ _ rfl rfl rfl ?_); refine w_rlen Try.elVt _ rfl rfl rfl (hl.out.ext VtR.stays hX) ?_)
      | fail) <;> (try simp only [Act.put, List.setIfInBounds_toArray, List.set_cons_zero, List.set_cons_succ]))
    go_ret
    exact Keep.intro ⟨rfl, hX⟩
  have t0 : decide ((60 : Int) < (l.length : Int)) = false := by simp; omega
  have h60 := hide_ (show l.length ≤ 60 from by omega)
  have hN := hide_ (show l.length ≤ 400 from by omega)
  have hN2 := hide_ (show l.reverse.length ≤ 400 from by rw [List.length_reverse]; omega)
  clear hbig
  go_enter Try.func5, Try.ntmps5
  go_wp2_with ((first
    | go_big_skip
    | ((with_reducible refine at_box ?_); refine w_box _ (vrow q) rfl rfl rfl rfl ?_; intro b5 w1 hb5 hx f5; replace hX := hX.trans hx; clear hx)
    | (go_at_call 12; refine (tallyAlive_any _).mono ?_; rintro e w7 ⟨rfl, hx⟩; replace f5 := f5.ext hx; replace hX := hX.trans hx; clear hx)
    | (go_at_call 15; refine (checkB (hs.out.ext hX) hck.out).mono ?_; rintro e w7 ⟨rfl, hx⟩; replace f5 := f5.ext hx; replace hX := hX.trans hx; clear hx)
    | ((with_reducible refine at_bi ?_); (try refine w_yes _ _ _ rfl rfl rfl ?_); refine w_rlen Try.elVt _ rfl rfl rfl (hl.out.ext VtR.stays hX) ?_)
    | fail) <;> (try simp only [Act.put, List.setIfInBounds_toArray, List.set_cons_zero, List.set_cons_succ]))
  have f51 := hide_ f5
  have hX1 := hide_ hX
  clear f5
  go_loopw [35] (fun u35 wr => ∃ i : Nat, u35 = .int .i64 i ∧ i ≤ l.length ∧ Hid (Apart (l.take i)) ∧ Ext w7 wr) (fun i _ => l.length - (intOf i).toNat)
  case atStart => exact ⟨0, rfl, Nat.zero_le _, List.Pairwise.nil, Ext.refl _⟩
  case round =>
    clear hX
    obtain ⟨i, rfl, hi, hap, hY⟩ := hrel
    have hX := hX1.out.trans hY
    by_cases hlt0 : i < l.length
    · have hlt := hide_ hlt0
      have tl : decide (i < l.length) = true := decide_eq_true hlt0
      have hi7 : i ≤ 60 := by have := h60.out; omega
      obtain ⟨d, hd0⟩ : ∃ d, l[i] = d := ⟨_, rfl⟩
      have hd := hide_ hd0
      have hnext := hide_ (fun hn => apart_step hlt0 hd0 hap.out hn)
      obtain ⟨M, hM0⟩ : ∃ M, l.take i = M := ⟨_, rfl⟩
      have hM := hide_ hM0
      have hMl := hide_ (show M.length ≤ 60 from by rw [← hM0, List.length_take]; omega)
      rw [hM0] at hnext
      have hil := hide_ (show i ≤ l.length from hi)
      clear hd0 hlt0 hM0
      go_wp2_with ((first
        | ((with_reducible refine at_idx ?_); refine w_ridx0 (W0 := W) Try.elVt _ _ i VtR.stays rfl rfl rfl rfl hl.out hX hlt.out ?_; rintro pq row hrow hrl hre; obtain ⟨rfl, _⟩ := (congrArg (fun z => VtR W row z) hd.out).mp hre)
        | ((with_reducible refine at_load ?_); refine w_pload Try.stVt _ rfl rfl rfl (hrow.ext hX) hrl ?_)
        | ((with_reducible refine at_alloc ?_); refine w_alloc (o := ⟨some 8, _, _, _, _, _⟩) Try.stVt rfl rfl ?_; intro b8 w4 hg hx4 f8)
        | ((with_reducible refine at_store ?_); refine w_astore Try.stVt (us := vrow d) _ _ rfl rfl rfl rfl rfl f8 rfl rfl (vt_one d) ?_; intro w8 hm5 f5; replace f8 := f5; replace hX := hX.trans (hm5.after hx4 (fun i e => e ▸ hg)); replace hY := hY.trans (hm5.after hx4 (fun i e => e ▸ hg)); clear f5 hm5 hx4 hg hrow)
        | ((with_reducible refine at_cut ?_); refine w_nto0 (W0 := W) Try.elVt _ _ i rfl rfl rfl rfl hl.out hil.out ?_; intro v42 hl42; rw [hM.out] at hl42)
        | ((with_reducible refine at_bi ?_); refine w_rlen Try.elVt _ rfl rfl rfl (hl42.ext VtR.stays hX) ?_)
        | fail) <;> (try simp only [Act.put, List.setIfInBounds_toArray, List.set_cons_zero, List.set_cons_succ]))
      have hl421 := hide_ hl42
      have f81 := hide_ f8
      have hX2 := hide_ hX
      have hY2 := hide_ hY
      clear hl42 f8
      go_loopw [44] (fun u44 w9 => ∃ j : Nat, u44 = .int .i64 j ∧ j ≤ M.length ∧ Hid (∀ x ∈ M.take j, ¬ Plc x d) ∧ Ext w8 w9) (fun j _ => M.length - (intOf j).toNat)
      case atStart => exact ⟨0, rfl, Nat.zero_le _, (fun x hx => nomatch hx), Ext.refl _⟩
      case round =>
        clear hX hY
        obtain ⟨j, rfl, hj, hno, hZ⟩ := hrel
        have hX := hX2.out.trans hZ
        have hY := hY2.out.trans hZ
        have f8 := f81.out.ext hZ
        by_cases hlt1 : j < M.length
        · have hltj := hide_ hlt1
          have tl2 : decide (j < M.length) = true := decide_eq_true hlt1
          have hj7 : j ≤ 60 := by have := hMl.out; omega
          obtain ⟨x, hx0⟩ : ∃ x, M[j] = x := ⟨_, rfl⟩
          have hx := hide_ hx0
          have hstep := hide_ (fun hp => mem_take_step hlt1 hx0 (p := fun x => ¬ Plc x d) hno.out hp)
          clear hx0 hlt1
          cases c1 : (x.k == d.k)
          · go_wp2_with ((first
              | go_big_skip
              | ((with_reducible refine at_idx ?_); refine w_ridx0 (W0 := W) Try.elVt _ _ j VtR.stays rfl rfl rfl rfl hl421.out hX hltj.out ?_; rintro pq row hrow hrl hre; obtain ⟨rfl, _⟩ := (congrArg (fun z => VtR W row z) hx.out).mp hre)
              | ((with_reducible refine at_load ?_); refine w_pload Try.stVt _ rfl rfl rfl (hrow.ext hX) hrl ?_)
              | ((with_reducible refine at_alloc ?_); refine w_alloc (o := ⟨some 10, _, _, _, _, _⟩) Try.stVt rfl rfl ?_; intro b10 w4 hg hx4 f10)
              | ((with_reducible refine at_store ?_); refine w_astore Try.stVt (us := vrow x) _ _ rfl rfl rfl rfl rfl f10 rfl rfl (vt_one x) ?_; intro w6 hm5 f5; replace f10 := f5; have hx5 := hm5.after hx4 (fun i e => e ▸ hg); replace f8 := f8.ext hx5; replace hX := hX.trans hx5; replace hY := hY.trans hx5; replace hZ := hZ.trans hx5; clear f5 hm5 hx4 hg hrow hx5)
              | ((with_reducible refine at_field ?_); (try refine w_yes _ _ _ rfl rfl rfl ?_); refine w_field Try.stVt _ _ _ rfl rfl rfl (by omega) ?_)
              | ((with_reducible refine at_load ?_); (try refine w_yes _ _ _ rfl rfl rfl ?_); refine w_fload _ rfl rfl rfl f10 rfl (agg_of (by kernel_rfl)) ?_)
              | ((with_reducible refine at_load ?_); (try refine w_yes _ _ _ rfl rfl rfl ?_); refine w_fload _ rfl rfl rfl f8 rfl (agg_of (by kernel_rfl)) ?_)
              | fail) <;> (try simp only [Act.put, List.setIfInBounds_toArray, List.set_cons_zero, List.set_cons_succ]))
            go_roundw
            case rel => exact ⟨j + 1, by go_num, by have := hltj.out; omega, hstep.out (fun h => by simp [h.1] at c1), hZ⟩
            case measure => have := hltj.out; simp [intOf]; omega
          cases c2 : (x.w == d.w)
          · go_wp2_with ((first
              | go_big_skip
              | ((with_reducible refine at_idx ?_); refine w_ridx0 (W0 := W) Try.elVt _ _ j VtR.stays rfl rfl rfl rfl hl421.out hX hltj.out ?_; rintro pq row hrow hrl hre; obtain ⟨rfl, _⟩ := (congrArg (fun z => VtR W row z) hx.out).mp hre)
              | ((with_reducible refine at_load ?_); refine w_pload Try.stVt _ rfl rfl rfl (hrow.ext hX) hrl ?_)
              | ((with_reducible refine at_alloc ?_); refine w_alloc (o := ⟨some 10, _, _, _, _, _⟩) Try.stVt rfl rfl ?_; intro b10 w4 hg hx4 f10)
              | ((with_reducible refine at_store ?_); refine w_astore Try.stVt (us := vrow x) _ _ rfl rfl rfl rfl rfl f10 rfl rfl (vt_one x) ?_; intro w6 hm5 f5; replace f10 := f5; have hx5 := hm5.after hx4 (fun i e => e ▸ hg); replace f8 := f8.ext hx5; replace hX := hX.trans hx5; replace hY := hY.trans hx5; replace hZ := hZ.trans hx5; clear f5 hm5 hx4 hg hrow hx5)
              | ((with_reducible refine at_field ?_); (try refine w_yes _ _ _ rfl rfl rfl ?_); refine w_field Try.stVt _ _ _ rfl rfl rfl (by omega) ?_)
              | ((with_reducible refine at_load ?_); (try refine w_yes _ _ _ rfl rfl rfl ?_); refine w_fload _ rfl rfl rfl f10 rfl (agg_of (by kernel_rfl)) ?_)
              | ((with_reducible refine at_load ?_); (try refine w_yes _ _ _ rfl rfl rfl ?_); refine w_fload _ rfl rfl rfl f8 rfl (agg_of (by kernel_rfl)) ?_)
              | fail) <;> (try simp only [Act.put, List.setIfInBounds_toArray, List.set_cons_zero, List.set_cons_succ]))
            go_roundw
            case rel => exact ⟨j + 1, by go_num, by have := hltj.out; omega, hstep.out (fun h => by simp [h.2.1] at c2), hZ⟩
            case measure => have := hltj.out; simp [intOf]; omega
          cases c3 : (x.f == d.f)
          · go_wp2_with ((first
              | go_big_skip
              | ((with_reducible refine at_idx ?_); refine w_ridx0 (W0 := W) Try.elVt _ _ j VtR.stays rfl rfl rfl rfl hl421.out hX hltj.out ?_; rintro pq row hrow hrl hre; obtain ⟨rfl, _⟩ := (congrArg (fun z => VtR W row z) hx.out).mp hre)
              | ((with_reducible refine at_load ?_); refine w_pload Try.stVt _ rfl rfl rfl (hrow.ext hX) hrl ?_)
              | ((with_reducible refine at_alloc ?_); refine w_alloc (o := ⟨some 10, _, _, _, _, _⟩) Try.stVt rfl rfl ?_; intro b10 w4 hg hx4 f10)
              | ((with_reducible refine at_store ?_); refine w_astore Try.stVt (us := vrow x) _ _ rfl rfl rfl rfl rfl f10 rfl rfl (vt_one x) ?_; intro w6 hm5 f5; replace f10 := f5; have hx5 := hm5.after hx4 (fun i e => e ▸ hg); replace f8 := f8.ext hx5; replace hX := hX.trans hx5; replace hY := hY.trans hx5; replace hZ := hZ.trans hx5; clear f5 hm5 hx4 hg hrow hx5)
              | ((with_reducible refine at_field ?_); (try refine w_yes _ _ _ rfl rfl rfl ?_); refine w_field Try.stVt _ _ _ rfl rfl rfl (by omega) ?_)
              | ((with_reducible refine at_load ?_); (try refine w_yes _ _ _ rfl rfl rfl ?_); refine w_fload _ rfl rfl rfl f10 rfl (agg_of (by kernel_rfl)) ?_)
              | ((with_reducible refine at_load ?_); (try refine w_yes _ _ _ rfl rfl rfl ?_); refine w_fload _ rfl rfl rfl f8 rfl (agg_of (by kernel_rfl)) ?_)
              | fail) <;> (try simp only [Act.put, List.setIfInBounds_toArray, List.set_cons_zero, List.set_cons_succ]))
            go_roundw
            case rel => exact ⟨j + 1, by go_num, by have := hltj.out; omega, hstep.out (fun h => by simp [h.2.2] at c3), hZ⟩
            case measure => have := hltj.out; simp [intOf]; omega
          · go_wp2_with ((first
              | go_big_skip
              | ((with_reducible refine at_idx ?_); refine w_ridx0 (W0 := W) Try.elVt _ _ j VtR.stays rfl rfl rfl rfl hl421.out hX hltj.out ?_; rintro pq row hrow hrl hre; obtain ⟨rfl, _⟩ := (congrArg (fun z => VtR W row z) hx.out).mp hre)
              | ((with_reducible refine at_load ?_); refine w_pload Try.stVt _ rfl rfl rfl (hrow.ext hX) hrl ?_)
              | ((with_reducible refine at_alloc ?_); refine w_alloc (o := ⟨some 10, _, _, _, _, _⟩) Try.stVt rfl rfl ?_; intro b10 w4 hg hx4 f10)
              | ((with_reducible refine at_store ?_); refine w_astore Try.stVt (us := vrow x) _ _ rfl rfl rfl rfl rfl f10 rfl rfl (vt_one x) ?_; intro w6 hm5 f5; replace f10 := f5; have hx5 := hm5.after hx4 (fun i e => e ▸ hg); replace f8 := f8.ext hx5; replace hX := hX.trans hx5; replace hY := hY.trans hx5; replace hZ := hZ.trans hx5; clear f5 hm5 hx4 hg hrow hx5)
              | ((with_reducible refine at_field ?_); (try refine w_yes _ _ _ rfl rfl rfl ?_); refine w_field Try.stVt _ _ _ rfl rfl rfl (by omega) ?_)
              | ((with_reducible refine at_load ?_); (try refine w_yes _ _ _ rfl rfl rfl ?_); refine w_fload _ rfl rfl rfl f10 rfl (agg_of (by kernel_rfl)) ?_)
              | ((with_reducible refine at_load ?_); (try refine w_yes _ _ _ rfl rfl rfl ?_); refine w_fload _ rfl rfl rfl f8 rfl (agg_of (by kernel_rfl)) ?_)
              | fail) <;> (try simp only [Act.put, List.setIfInBounds_toArray, List.set_cons_zero, List.set_cons_succ]))
            go_ret
            exact Keep.intro ⟨rfl, hX⟩
        · have tl2 : decide (j < M.length) = false := decide_eq_false hlt1
          have hn3 := hide_ (hnext.out (fun x hx => hno.out x (by rw [List.take_of_length_le (by omega)]; exact hx)))
          clear hlt1 hno
          go_wp2
          go_roundw
          case rel => exact ⟨i + 1, by go_num, by have := hlt.out; omega, hn3.out, hY⟩
          case measure => have := hlt.out; simp [intOf]; omega
    · have hil : i = l.length := by omega
      have tl : decide (i < l.length) = false := decide_eq_false hlt0
      subst hil
      have hAp := hide_ (show Apart l from by have := hap.out; rwa [List.take_length] at this)
      have f5 := f51.out.ext hY
      have hll : l.length ≤ 60 := h60.out
      clear hlt0 hap
      go_wp2_with ((first
        | ((with_reducible refine at_lit ?_); refine w_nnew (o := ⟨some 69, _, _, _, _, _⟩) Try.elVtN [] rfl rfl rfl (by simp) rfl (by omega) ?_; intro v69 w5 B hB1 hB2 hx hn; have hBs := hide_ (show b5 < B ∧ W.heap.size ≤ B from by have := f5.lt; have := hX.size; exact ⟨by omega, by omega⟩); have hnW := hn.mono (G := fun k => B ≤ k) (fun k hk => hk.1); have hB5 := hide_ hB2; replace f5 := f5.ext hx; replace hX := hX.trans hx; clear hx hB1 hB2 hn)
        | ((with_reducible refine at_bi ?_); (try refine w_yes _ _ _ rfl rfl rfl ?_); refine w_rlen Try.elVt _ rfl rfl rfl (hl.out.ext VtR.stays hX) ?_)
        | fail) <;> (try simp only [Act.put, List.setIfInBounds_toArray, List.set_cons_zero, List.set_cons_succ]))
      go_loopw [12, 11] (fun u12 u11 wr => ∃ k : Nat, u12 = .int .i64 ((l.length : Int) - 1 - k) ∧ k ≤ l.length ∧ RowN (fun j => B ≤ j) wr 33 4 u11 ((l.reverse.take k).map vrow) ∧ Fs wr b5 (vrow q) ∧ Hid (B ≤ wr.heap.size) ∧ Ext W wr) (fun u12 _ _ => (intOf u12 + 1).toNat)
      case atStart => exact ⟨0, by simp, Nat.zero_le _, hnW, f5, hB5.out, hX⟩
      case round =>
        clear hX hnW f5
        obtain ⟨k, rfl, hk, hn7, f5, hBs5, hX⟩ := hrel
        by_cases hlt0 : k < l.length
        · obtain ⟨i, hi0⟩ : ∃ i : Nat, l.length = i + k + 1 := ⟨l.length - 1 - k, by omega⟩
          have hi1 : (l.length : Int) - 1 - k = (i : Int) := by omega
          rw [hi1]
          have hil := hide_ (show i < l.length from by omega)
          have hi7 : i ≤ 60 := by have := h60.out; omega
          obtain ⟨d, hd0⟩ : ∃ d, l[i]'(hil.out) = d := ⟨_, rfl⟩
          have hd := hide_ hd0
          have hrs := hide_ (rev_step hi0 hd0)
          have hii := hide_ hi0
          have hrl := hide_ (show (l.reverse.take k).length ≤ 60 from by have h1 := h60.out; rw [List.length_take, List.length_reverse]; omega)
          obtain ⟨M, hM0⟩ : ∃ M, l.reverse.take k = M := ⟨_, rfl⟩
          rw [hM0] at hn7 hrl hrs
          have hbig2 := hide_ (show ((M.map vrow).length + [vrow d].length) * 32 ≤ 140737488355328 from by have := hrl.out; simp; omega)
          have hnn : 0 ≤ (i : Int) := by omega
          clear hd0 hi0 hi1 hlt0 hM0
          go_wp2_with ((first
            | ((with_reducible refine at_idx ?_); refine w_ridx0 (W0 := W) Try.elVt _ _ i VtR.stays rfl rfl rfl rfl hl.out hX hil.out ?_; rintro pq row hrow hrl2 hre; obtain ⟨rfl, _⟩ := (congrArg (fun z => VtR W row z) hd.out).mp hre)
            | ((with_reducible refine at_load ?_); refine w_pload Try.stVt _ rfl rfl rfl (hrow.ext hX) hrl2 ?_)
            | ((with_reducible refine at_lit ?_); refine w_nnew (o := ⟨some 82, _, _, _, _, _⟩) Try.elVtN [vrow d] rfl rfl rfl (by intro y hy; simp at hy; subst hy; rfl) rfl (by omega) ?_; intro v66 w7 B7 hB1 hB2 hx hn; have hl7 := hn.slS; replace hn7 := hn7.ext hx; replace f5 := f5.ext hx; have hs8 := hide_ (Nat.le_trans hBs5.out hx.size); replace hX := hX.trans hx; clear hx hB1 hB2 hn hrow)
            | ((with_reducible refine at_bi ?_); refine w_napp (o := ⟨some 83, _, _, _, _, _⟩) Try.elVtN _ _ rfl rfl rfl rfl hn7 hl7 (by simp) (by intro y hy; simp at hy; subst hy; exact vt_one d) hbig2.out ?_; intro v67 w8 hm8 hn8; replace hn8 := hn8.mono (G := fun k => B ≤ k) fun k hk => hk.elim id fun h => Nat.le_trans hs8.out h.1; replace f5 := f5.mod hm8 (Nat.not_le.2 hBs.out.1); have hs9 := hide_ (Nat.le_trans hs8.out hm8.size); replace hX := hm8.after hX (fun i hi => Nat.le_trans hBs.out.2 hi); clear hm8 hn7 hl7)
            | fail) <;> (try simp only [Act.put, List.setIfInBounds_toArray, List.set_cons_zero, List.set_cons_succ]))
          go_roundw
          case rel => exact ⟨k + 1, by have := hii.out; congr 1; omega, by have := hii.out; omega, by rw [hrs.out, List.map_append]; exact hn8, f5, hs9, hX⟩
          case measure => simp [intOf]
        · have hkl : k = l.length := by omega
          subst hkl
          have e0 : (l.length : Int) - 1 - l.length = -1 := by omega
          rw [e0]
          rw [List.take_of_length_le (by rw [List.length_reverse]; omega)] at hn7
          have hvM := vts_of hn7 (fun d hd => hfit.out d (List.mem_reverse.1 hd))
          obtain ⟨A, hA0⟩ : ∃ A, ofV (votesOf t.length l) = A := ⟨_, rfl⟩
          have hA := hide_ hA0
          have hA2 := hide_ (show ofV (votesOf t.length l.reverse) = A from by rw [← hA0]; exact (votesOf_turns hAp.out).symm)
          obtain ⟨rA, hrA0⟩ : ∃ rA, A.commOf t = rA := ⟨_, rfl⟩
          obtain ⟨yA, hyA0⟩ : ∃ yA, rA.getD 0 = yA := ⟨_, rfl⟩
          obtain ⟨qA, hqA0⟩ : ∃ qA, rA.isSome = qA := ⟨_, rfl⟩
          obtain ⟨n1, hn10⟩ : ∃ n1, A.aheadOf t q.w = n1 := ⟨_, rfl⟩
          obtain ⟨WL, hWL0⟩ : ∃ WL, A.who t.length q.k q.w q.x = WL := ⟨_, rfl⟩
          have hrA := hide_ hrA0
          have hyA := hide_ hyA0
          have hqA := hide_ hqA0
          have hn1 := hide_ hn10
          have hWL := hide_ hWL0
          clear hlt0 hn7 hA0 hrA0 hyA0 hqA0 hn10 hWL0 e0
          have tokA : True := trivial
          have tokB : True := trivial
          go_wp2_with ((first
            | (have _t := tokA; go_at_call 16; clear tokA _t; refine (countedS (hs.out.ext hX) hst.out (hl.out.ext VtR.stays hX) (by have := h60.out; omega) hX).mono ?_; rintro e w3 ⟨p1, u1, rfl, hT1, hu1, hx⟩; rw [hA.out] at hT1; have ou1 := hide_ hu1.one; clear hu1; replace hvM := Vts.ext hvM hx; replace f5 := f5.ext hx; replace hX := hX.trans hx; clear hx)
            | (go_at_call 16; refine (countedS (hs.out.ext hX) hst.out hvM (by rw [List.length_reverse]; have := h60.out; omega) hX).mono ?_; rintro e w3 ⟨p2, u2, rfl, hT2, hu2, hx⟩; rw [hA2.out] at hT2; have ou2 := hide_ hu2.one; clear hu2 hvM; replace hT1 := hT1.ext hx; replace f5 := f5.ext hx; replace hX := hX.trans hx; clear hx)
            | ((with_reducible refine at_ext ?_); refine wpList_runs rfl (runs_extract rfl rfl rfl) ?_; simp only [List.getElem_toArray, List.getElem_cons_succ, List.getElem_cons_zero])
            | ((with_reducible refine at_alloc ?_); refine w_alloc (o := ⟨some 14, _, _, _, _, _⟩) Try.stTy rfl rfl ?_; intro b8 w4 hb8 hx8 f8)
            | ((with_reducible refine at_alloc ?_); refine w_alloc (o := ⟨some 17, _, _, _, _, _⟩) Try.stTy rfl rfl ?_; intro b11 w4 hb8 hx8 f8)
            | ((with_reducible refine at_store ?_); refine w_astore Try.stTy (us := [v0, u1]) _ _ rfl rfl rfl rfl rfl f8 rfl rfl (by intro z hz; simp at hz; rcases hz with rfl | rfl; exact hone.out; exact ou1.out) ?_; intro w5 hm5 _; have hx := hm5.after hx8 (fun i e => by have e' : i = b8 := e; rw [e']; exact hb8); replace hT1 := hT1.ext hx; replace hvM := Vts.ext hvM hx; replace f5 := f5.ext hx; replace hX := hX.trans hx; clear hx hm5 hx8 hb8 f8)
            | ((with_reducible refine at_store ?_); refine w_astore Try.stTy (us := [v0, u2]) _ _ rfl rfl rfl rfl rfl f8 rfl rfl (by intro z hz; simp at hz; rcases hz with rfl | rfl; exact hone.out; exact ou2.out) ?_; intro w5 hm5 _; have hx := hm5.after hx8 (fun i e => by have e' : i = b11 := e; rw [e']; exact hb8); replace hT1 := hT1.ext hx; replace hT2 := hT2.ext hx; replace f5 := f5.ext hx; replace hX := hX.trans hx; clear hx hm5 hx8 hb8 f8)
            | (have _t := tokB; go_at_call 10; clear tokB _t; refine (TComm_any (p := p1) hT1 hN.out hrA.out).mono ?_; rintro e w5 ⟨he, hx⟩; rw [hyA.out, hqA.out] at he; subst he; replace hT1 := hT1.ext hx; replace hT2 := hT2.ext hx; replace f5 := f5.ext hx; replace hX := hX.trans hx; clear hx)
            | (go_at_call 10; refine (TComm_any (p := p2) hT2 hN2.out hrA.out).mono ?_; rintro e w5 ⟨he, hx⟩; rw [hyA.out, hqA.out] at he; subst he; replace hT1 := hT1.ext hx; replace hT2 := hT2.ext hx; replace f5 := f5.ext hx; replace hX := hX.trans hx; clear hx)
            | fail) <;> (try simp only [Act.put, List.setIfInBounds_toArray, List.set_cons_zero, List.set_cons_succ]))
          have hT1r := hT1
          have hT2r := hT2
          have f5r := f5
          refine wp_region_phx (by kernel_rfl) ?_; intro wd hxd; have F5 := f5r.ext hxd; have H1 := hT1r.ext hxd; have H2 := hT2r.ext hxd
          refine Ph.rest 0 39 (by kernel_rfl) ?_
          refine LinL.step (s := (.val (.int .i64 yA))) [(19, none)] rfl (by kernel_rfl) (op_out 19 (.int .i64 yA) rfl (.inl rfl) rfl) ?_
          refine LinL.step (s := (.val (.int .i64 yA))) [(21, none)] rfl (by kernel_rfl) (op_out 21 (.int .i64 yA) rfl (.inl rfl) rfl) ?_
          refine LinL.step (s := (.val (.bool true))) [(108, some 1), (109, some 0)] rfl (by kernel_rfl) (op_runs rfl fun σ w' hx hg => ⟨(.bool true), by have h108 : σ.tmps.getD 108 undef = .int .i64 yA := hg.1; have h109 : σ.tmps.getD 109 undef = .int .i64 yA := hg.2.1; unfold Runs execOp; simp [Act.eval, h108, h109, go_sem], rfl⟩) ?_
          refine LinL.step (s := (.val (.bool true))) [(110, some 0)] rfl (by kernel_rfl) (op_copy 110 0 (.val (.bool true)) rfl (.inl rfl) rfl) ?_
          refine LinL.step (s := (.val (.bool qA))) [(20, none), (111, some 0)] rfl (by kernel_rfl) (op_yes (reads := [(20, none)]) 3 111 0 true rfl rfl rfl (op_out 20 (.bool qA) rfl (.inl rfl) rfl)) ?_
          refine LinL.step (s := (.val (.bool qA))) [(22, none), (111, some 1)] rfl (by kernel_rfl) (op_yes (reads := [(22, none)]) 3 111 1 true rfl rfl rfl (op_out 22 (.bool qA) rfl (.inl rfl) rfl)) ?_
          refine LinL.step (s := (.val (.bool true))) [(112, some 1), (113, some 0), (111, some 2)] rfl (by kernel_rfl) (op_yes (reads := [(112, some 1), (113, some 0)]) 3 111 2 true rfl rfl rfl (op_runs rfl fun σ w' hx hg => ⟨(.bool true), by have h112 : σ.tmps.getD 112 undef = .bool qA := hg.1; have h113 : σ.tmps.getD 113 undef = .bool qA := hg.2.1; unfold Runs execOp; simp [Act.eval, h112, h113, go_sem], rfl⟩)) ?_
          refine LinL.step (s := (.val (.bool true))) [(111, some 3), (114, some 0)] rfl (by kernel_rfl) (op_runs rfl fun σ w' hx hg => ⟨_, runs_pick_t (ρ := σ.eval) (w := w') (.tmp 111) (.tmp 114) (.const (.bool false)) rfl hg.1 hg.2.1, rfl⟩) ?_
          refine LinL.step (s := (.val (.bool true))) [(115, some 0)] rfl (by kernel_rfl) (op_copy 115 0 (.val (.bool true)) rfl (.inl rfl) rfl) ?_
          refine LinL.step (s := (.val (.pointer (some ⟨p1, 0, none⟩)))) [(13, none), (116, some 0)] rfl (by kernel_rfl) (op_yes (reads := [(13, none)]) 8 116 0 true rfl rfl rfl (op_out 13 (.pointer (some ⟨p1, 0, none⟩)) rfl (.inl rfl) rfl)) ?_
          refine LinL.step (s := (.val (.pointer (some ⟨b5, 1, none⟩)))) [(5, none), (116, some 1)] rfl (by kernel_rfl) (op_yes (reads := [(5, none)]) 8 116 1 true rfl rfl rfl (op_runs rfl fun σ w' hx hg => ⟨_, runs_field (ρ := σ.eval) (w := w') Try.stVt (.tmp 5) b5 1 rfl hg.1 (by omega), rfl⟩)) ?_
          refine LinL.step (s := (.val (.int .i64 q.w))) [(118, some 0), (116, some 2)] rfl (by kernel_rfl) (op_yes (reads := [(118, some 0)]) 8 116 2 true rfl rfl rfl (op_runs rfl fun σ w' hx hg => ⟨_, runs_fload (ρ := σ.eval) (w := w') (.tmp 118) rfl hg.1 (agg_of (by kernel_rfl) _) (F5.ext hx) rfl, rfl⟩)) ?_
          refine LinL.step (s := (.val (.int .i64 n1))) [(117, some 2), (119, some 0), (116, some 3)] rfl (by kernel_rfl) (op_yes (reads := [(117, some 2), (119, some 0)]) 8 116 3 true rfl rfl rfl (op_calls 13 #[(.tmp 117), (.tmp 119)] #[22, 3] (fun σ => #[.pointer (some ⟨p1, 0, none⟩), .int .i64 q.w]) rfl rfl (fun _ _ => rfl) fun σ w' hx hg => ⟨by have h117 : σ.tmps.getD 117 undef = .pointer (some ⟨p1, 0, none⟩) := hg.1; have h119 : σ.tmps.getD 119 undef = .int .i64 q.w := hg.2.1; simp only [List.map_toArray, List.map_cons, List.map_nil, Act.eval, h117, h119], aheadR (H1.ext hx) hN.out hn1.out⟩)) ?_
          refine LinL.step (s := (.val (.pointer (some ⟨p2, 0, none⟩)))) [(16, none), (116, some 4)] rfl (by kernel_rfl) (op_yes (reads := [(16, none)]) 8 116 4 true rfl rfl rfl (op_out 16 (.pointer (some ⟨p2, 0, none⟩)) rfl (.inl rfl) rfl)) ?_
          refine LinL.step (s := (.val (.pointer (some ⟨b5, 1, none⟩)))) [(5, none), (116, some 5)] rfl (by kernel_rfl) (op_yes (reads := [(5, none)]) 8 116 5 true rfl rfl rfl (op_runs rfl fun σ w' hx hg => ⟨_, runs_field (ρ := σ.eval) (w := w') Try.stVt (.tmp 5) b5 1 rfl hg.1 (by omega), rfl⟩)) ?_
          refine LinL.step (s := (.val (.int .i64 q.w))) [(122, some 0), (116, some 6)] rfl (by kernel_rfl) (op_yes (reads := [(122, some 0)]) 8 116 6 true rfl rfl rfl (op_runs rfl fun σ w' hx hg => ⟨_, runs_fload (ρ := σ.eval) (w := w') (.tmp 122) rfl hg.1 (agg_of (by kernel_rfl) _) (F5.ext hx) rfl, rfl⟩)) ?_
          refine LinL.step (s := (.val (.int .i64 n1))) [(121, some 2), (123, some 0), (116, some 7)] rfl (by kernel_rfl) (op_yes (reads := [(121, some 2), (123, some 0)]) 8 116 7 true rfl rfl rfl (op_calls 13 #[(.tmp 121), (.tmp 123)] #[22, 3] (fun σ => #[.pointer (some ⟨p2, 0, none⟩), .int .i64 q.w]) rfl rfl (fun _ _ => rfl) fun σ w' hx hg => ⟨by have h121 : σ.tmps.getD 121 undef = .pointer (some ⟨p2, 0, none⟩) := hg.1; have h123 : σ.tmps.getD 123 undef = .int .i64 q.w := hg.2.1; simp only [List.map_toArray, List.map_cons, List.map_nil, Act.eval, h121, h123], aheadR (H2.ext hx) hN2.out hn1.out⟩)) ?_
          refine LinL.step (s := (.val (.bool true))) [(120, some 4), (124, some 0), (116, some 8)] rfl (by kernel_rfl) (op_yes (reads := [(120, some 4), (124, some 0)]) 8 116 8 true rfl rfl rfl (op_runs rfl fun σ w' hx hg => ⟨(.bool true), by have h120 : σ.tmps.getD 120 undef = .int .i64 n1 := hg.1; have h124 : σ.tmps.getD 124 undef = .int .i64 n1 := hg.2.1; unfold Runs execOp; simp [Act.eval, h120, h124, go_sem], rfl⟩)) ?_
          refine LinL.step (s := (.val (.bool true))) [(116, some 9), (125, some 0)] rfl (by kernel_rfl) (op_runs rfl fun σ w' hx hg => ⟨_, runs_pick_t (ρ := σ.eval) (w := w') (.tmp 116) (.tmp 125) (.const (.bool false)) rfl hg.1 hg.2.1, rfl⟩) ?_
          refine LinL.step (s := (.val (.bool true))) [(126, some 0)] rfl (by kernel_rfl) (op_copy 126 0 (.val (.bool true)) rfl (.inl rfl) rfl) ?_
          refine LinL.step (s := (.val (.pointer (some ⟨p1, 0, none⟩)))) [(13, none), (127, some 0)] rfl (by kernel_rfl) (op_yes (reads := [(13, none)]) 19 127 0 true rfl rfl rfl (op_out 13 (.pointer (some ⟨p1, 0, none⟩)) rfl (.inl rfl) rfl)) ?_
          refine LinL.step (s := (.val (.pointer (some ⟨b5, 0, none⟩)))) [(5, none), (127, some 1)] rfl (by kernel_rfl) (op_yes (reads := [(5, none)]) 19 127 1 true rfl rfl rfl (op_runs rfl fun σ w' hx hg => ⟨_, runs_field (ρ := σ.eval) (w := w') Try.stVt (.tmp 5) b5 0 rfl hg.1 (by omega), rfl⟩)) ?_
          refine LinL.step (s := (.val (.int .i64 q.k))) [(129, some 0), (127, some 2)] rfl (by kernel_rfl) (op_yes (reads := [(129, some 0)]) 19 127 2 true rfl rfl rfl (op_runs rfl fun σ w' hx hg => ⟨_, runs_fload (ρ := σ.eval) (w := w') (.tmp 129) rfl hg.1 (agg_of (by kernel_rfl) _) (F5.ext hx) rfl, rfl⟩)) ?_
          refine LinL.step (s := (.val (.pointer (some ⟨b5, 1, none⟩)))) [(5, none), (127, some 3)] rfl (by kernel_rfl) (op_yes (reads := [(5, none)]) 19 127 3 true rfl rfl rfl (op_runs rfl fun σ w' hx hg => ⟨_, runs_field (ρ := σ.eval) (w := w') Try.stVt (.tmp 5) b5 1 rfl hg.1 (by omega), rfl⟩)) ?_
          refine LinL.step (s := (.val (.int .i64 q.w))) [(131, some 0), (127, some 4)] rfl (by kernel_rfl) (op_yes (reads := [(131, some 0)]) 19 127 4 true rfl rfl rfl (op_runs rfl fun σ w' hx hg => ⟨_, runs_fload (ρ := σ.eval) (w := w') (.tmp 131) rfl hg.1 (agg_of (by kernel_rfl) _) (F5.ext hx) rfl, rfl⟩)) ?_
          refine LinL.step (s := (.val (.pointer (some ⟨b5, 3, none⟩)))) [(5, none), (127, some 5)] rfl (by kernel_rfl) (op_yes (reads := [(5, none)]) 19 127 5 true rfl rfl rfl (op_runs rfl fun σ w' hx hg => ⟨_, runs_field (ρ := σ.eval) (w := w') Try.stVt (.tmp 5) b5 3 rfl hg.1 (by omega), rfl⟩)) ?_
          refine LinL.step (s := (.val (.int .i64 q.x))) [(133, some 0), (127, some 6)] rfl (by kernel_rfl) (op_yes (reads := [(133, some 0)]) 19 127 6 true rfl rfl rfl (op_runs rfl fun σ w' hx hg => ⟨_, runs_fload (ρ := σ.eval) (w := w') (.tmp 133) rfl hg.1 (agg_of (by kernel_rfl) _) (F5.ext hx) rfl, rfl⟩)) ?_
          refine LinL.step (s := (Sp.ints WL)) [(128, some 6), (130, some 4), (132, some 2), (134, some 0), (127, some 7)] rfl (by kernel_rfl) (op_yes (reads := [(128, some 6), (130, some 4), (132, some 2), (134, some 0)]) 19 127 7 true rfl rfl rfl (op_calls 23 #[(.tmp 128), (.tmp 130), (.tmp 132), (.tmp 134)] #[22, 3, 3, 3] (fun σ => #[.pointer (some ⟨p1, 0, none⟩), .int .i64 q.k, .int .i64 q.w, .int .i64 q.x]) rfl rfl (fun _ _ => rfl) fun σ w' hx hg => ⟨by have h128 : σ.tmps.getD 128 undef = .pointer (some ⟨p1, 0, none⟩) := hg.1; have h130 : σ.tmps.getD 130 undef = .int .i64 q.k := hg.2.1; have h132 : σ.tmps.getD 132 undef = .int .i64 q.w := hg.2.2.1; have h134 : σ.tmps.getD 134 undef = .int .i64 q.x := hg.2.2.2.1; simp only [List.map_toArray, List.map_cons, List.map_nil, Act.eval, h128, h130, h132, h134], whoR (H1.ext hx) hN.out hdk.out hdw.out hWL.out⟩)) ?_
          refine LinL.step (s := (.val (.pointer (some ⟨p2, 0, none⟩)))) [(16, none), (127, some 8)] rfl (by kernel_rfl) (op_yes (reads := [(16, none)]) 19 127 8 true rfl rfl rfl (op_out 16 (.pointer (some ⟨p2, 0, none⟩)) rfl (.inl rfl) rfl)) ?_
          refine LinL.step (s := (.val (.pointer (some ⟨b5, 0, none⟩)))) [(5, none), (127, some 9)] rfl (by kernel_rfl) (op_yes (reads := [(5, none)]) 19 127 9 true rfl rfl rfl (op_runs rfl fun σ w' hx hg => ⟨_, runs_field (ρ := σ.eval) (w := w') Try.stVt (.tmp 5) b5 0 rfl hg.1 (by omega), rfl⟩)) ?_
          refine LinL.step (s := (.val (.int .i64 q.k))) [(137, some 0), (127, some 10)] rfl (by kernel_rfl) (op_yes (reads := [(137, some 0)]) 19 127 10 true rfl rfl rfl (op_runs rfl fun σ w' hx hg => ⟨_, runs_fload (ρ := σ.eval) (w := w') (.tmp 137) rfl hg.1 (agg_of (by kernel_rfl) _) (F5.ext hx) rfl, rfl⟩)) ?_
          refine LinL.step (s := (.val (.pointer (some ⟨b5, 1, none⟩)))) [(5, none), (127, some 11)] rfl (by kernel_rfl) (op_yes (reads := [(5, none)]) 19 127 11 true rfl rfl rfl (op_runs rfl fun σ w' hx hg => ⟨_, runs_field (ρ := σ.eval) (w := w') Try.stVt (.tmp 5) b5 1 rfl hg.1 (by omega), rfl⟩)) ?_
          refine LinL.step (s := (.val (.int .i64 q.w))) [(139, some 0), (127, some 12)] rfl (by kernel_rfl) (op_yes (reads := [(139, some 0)]) 19 127 12 true rfl rfl rfl (op_runs rfl fun σ w' hx hg => ⟨_, runs_fload (ρ := σ.eval) (w := w') (.tmp 139) rfl hg.1 (agg_of (by kernel_rfl) _) (F5.ext hx) rfl, rfl⟩)) ?_
          refine LinL.step (s := (.val (.pointer (some ⟨b5, 3, none⟩)))) [(5, none), (127, some 13)] rfl (by kernel_rfl) (op_yes (reads := [(5, none)]) 19 127 13 true rfl rfl rfl (op_runs rfl fun σ w' hx hg => ⟨_, runs_field (ρ := σ.eval) (w := w') Try.stVt (.tmp 5) b5 3 rfl hg.1 (by omega), rfl⟩)) ?_
          refine LinL.step (s := (.val (.int .i64 q.x))) [(141, some 0), (127, some 14)] rfl (by kernel_rfl) (op_yes (reads := [(141, some 0)]) 19 127 14 true rfl rfl rfl (op_runs rfl fun σ w' hx hg => ⟨_, runs_fload (ρ := σ.eval) (w := w') (.tmp 141) rfl hg.1 (agg_of (by kernel_rfl) _) (F5.ext hx) rfl, rfl⟩)) ?_
          refine LinL.step (s := (Sp.ints WL)) [(136, some 6), (138, some 4), (140, some 2), (142, some 0), (127, some 15)] rfl (by kernel_rfl) (op_yes (reads := [(136, some 6), (138, some 4), (140, some 2), (142, some 0)]) 19 127 15 true rfl rfl rfl (op_calls 23 #[(.tmp 136), (.tmp 138), (.tmp 140), (.tmp 142)] #[22, 3, 3, 3] (fun σ => #[.pointer (some ⟨p2, 0, none⟩), .int .i64 q.k, .int .i64 q.w, .int .i64 q.x]) rfl rfl (fun _ _ => rfl) fun σ w' hx hg => ⟨by have h136 : σ.tmps.getD 136 undef = .pointer (some ⟨p2, 0, none⟩) := hg.1; have h138 : σ.tmps.getD 138 undef = .int .i64 q.k := hg.2.1; have h140 : σ.tmps.getD 140 undef = .int .i64 q.w := hg.2.2.1; have h142 : σ.tmps.getD 142 undef = .int .i64 q.x := hg.2.2.2.1; simp only [List.map_toArray, List.map_cons, List.map_nil, Act.eval, h136, h138, h140, h142], whoR (H2.ext hx) hN2.out hdk.out hdw.out hWL.out⟩)) ?_
          refine LinL.step (s := (.val (.bool true))) [(135, some 8), (143, some 0), (127, some 16)] rfl (by kernel_rfl) (op_yes (reads := [(135, some 8), (143, some 0)]) 19 127 16 true rfl rfl rfl (op_calls 22 #[(.tmp 135), (.tmp 143)] #[24, 24] (fun σ => #[σ.tmps.getD 135 undef, σ.tmps.getD 143 undef]) rfl rfl (fun _ _ => rfl) fun σ w' hx hg => ⟨by skip; simp only [List.map_toArray, List.map_cons, List.map_nil, Act.eval], sameR hg.1 hg.2.1⟩)) ?_
          refine LinL.step (s := (.val (.bool true))) [(127, some 17), (144, some 0)] rfl (by kernel_rfl) (op_runs rfl fun σ w' hx hg => ⟨_, runs_pick_t (ρ := σ.eval) (w := w') (.tmp 127) (.tmp 144) (.const (.bool false)) rfl hg.1 hg.2.1, rfl⟩) ?_
          refine LinL.step (s := (.val (.bool true))) [(145, some 0)] rfl (by kernel_rfl) (op_copy 145 0 (.val (.bool true)) rfl (.inr rfl) rfl) ?_
          intro wN hxN
          simp only [Fin', Sp.ints, List.reverse_cons, List.reverse_nil, List.nil_append, List.cons_append, List.drop_zero, List.take_succ_cons, List.take_zero]
          intro q135 hq135 q143 hq143
          simp only [Act.put, List.setIfInBounds_toArray, List.set_cons_zero, List.set_cons_succ]
          replace hX := hX.trans (hxd.trans hxN)
          go_wp2
          go_ret
          exact Keep.intro ⟨rfl, hX⟩

set_option maxRecDepth 100000 in
theorem tallyTurns_lifted (os : Os) (started : os.Started) (H : Type) (enc : TypeId × Value → H) :
    ReturnsInHanded {} Try.checked os 5 .any (Rows.tallyTurnsSpec.pre6 enc Try.prog Try.f5 Rows.tallyTurnsRow.domain false) (Rows.tallyTurnsSpec.post enc Try.prog Try.f5 false true false false) := by
  refine law_lifted (s := Rows.tallyTurnsSpec) (conds := Rows.tallyTurnsRow.domain) Try.func5 (by kernel_rfl) rfl (fun H ds h => by
      rw [show Try.f5.params.size = 3 from rfl] at h
      match ds, h with
      | [d0, d1, d2], _ => rfl) rfl rfl (by decide +kernel) os started H enc
    (ChangeSpec.witness6 (enc := enc) (C := Try.checked) false ⟨#[], #[.slice none 0 0, .slice none 0 0, .agg #[.int .i64 0, .int .i64 0, .int .i64 0, .int .i64 0]], []⟩ 8 (by kernel_rfl) (by kernel_rfl) (by kernel_rfl) (by kernel_rfl)) ?_
  intro W base args ds p hval hA hsz _
  have hp : Try.f5.params.toList = [24, 31, 33] := rfl
  rw [hp] at hA hsz
  obtain ⟨v0, v1, v2, d0, d1, d2, p0, p1, p2, rfl, rfl, rfl, h0, h1, h2⟩ := trodAll_three hA
  obtain ⟨l0, a0, b0, c0⟩ := arg_ints hsz (j := 0) rfl rfl (hval 0 24 v0 rfl rfl) h0
  obtain ⟨l1, a1⟩ := arg_Vts hsz (j := 1) rfl rfl (hval 1 31 v1 rfl rfl) h1
  obtain ⟨row2, d2, rfl, _, rfl, b2⟩ := arg_Vt hsz (j := 2) rfl rfl (hval 2 33 v2 rfl rfl) h2
  exact tallyTurns_law v0 v1 l0 l1 d2 W a0 a1 b2

theorem tallyTurns_holds : Rows.TallyTurnsSaid :=
  OpenClaim.holds_of_wide 5 Try.f5 rfl rfl rfl rfl rfl rfl rfl ⟨rfl, rfl, rfl, rfl, rfl⟩ rfl rfl rfl rfl rfl (by kernel_rfl) Try.func5 (by kernel_rfl)
    (of_decide_eq_true (by kernel_rfl)) (by unfold Func.isWrapper; first | (rw [if_pos (by decide +kernel)]; kernel_rfl) | (rw [if_neg (by decide +kernel)]; exact ⟨rfl, rfl⟩))
    (fun os started H enc _ => tallyTurns_lifted os started H enc)
#print axioms tallyTurns_holds

end Go.Proofs.Ytmhmkaginnddeaa
