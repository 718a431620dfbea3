/- Who voted for a value, rising; the views in which anybody voted. -/
import Derived.Test.YtmhmkaginnddeaaTlC
namespace Go.Proofs.Ytmhmkaginnddeaa
set_option maxRecDepth 100000
open Go.RowKit Go.Sort Go.Lib

theorem OwnI.own_lt {base : Nat} {w : World} {v : Value} {l : List Int} (h : OwnI base w v l) {k : Nat} (hk : v.ownBlock = some k) : base ≤ k ∧ k < w.heap.size := own_block_lt (g := k) h hk
/-- What has come of a map's entries: those of this value. -/
def Came (f : Nat → Option Int) (x : Int) (left : Go.Lit → Bool) (l : List Int) : Prop :=
  l.Nodup ∧ ∀ i, i ∈ l ↔ In64 i ∧ fat f i = some x ∧ left (.int .i64 i) = false
theorem Came.start {D : DataW Value} {f : Nat → Option Int} {x : Int} (h : InM D f) : Came f x (Maps.has D) [] :=
  ⟨List.nodup_nil, fun i => ⟨(fun h => nomatch h), fun ⟨h1, h2, h3⟩ => by rw [(h.2 i h1).1, h2] at h3; cases h3⟩⟩
theorem Came.yes {f : Nat → Option Int} {x i : Int} {left : Go.Lit → Bool} {l : List Int} (h : Came f x left l) (hi : In64 i) (hl : left (.int .i64 i) = true) (hx : fat f i = some x) : Came f x (fun z => left z && !z.sameKey (.int .i64 i)) (l ++ [i]) := by
  have hni : i ∉ l := fun hc => by have := ((h.2 i).1 hc).2.2; rw [hl] at this; cases this
  refine ⟨List.nodup_append.2 ⟨h.1, by simp, fun a ha b hb => by rw [List.mem_singleton] at hb; subst hb; exact fun e => hni (e ▸ ha)⟩, fun j => ?_⟩
  rw [List.mem_append, h.2, List.mem_singleton]
  simp only [sameKey_int, Bool.and_eq_false_iff, Bool.not_eq_false', decide_eq_true_eq]
  constructor
  · rintro (⟨h1, h2, h3⟩ | rfl)
    · exact ⟨h1, h2, .inl h3⟩
    · exact ⟨hi, hx, .inr rfl⟩
  · rintro ⟨h1, h2, h3 | h3⟩
    · exact .inl ⟨h1, h2, h3⟩
    · exact .inr h3
theorem Came.no {f : Nat → Option Int} {x y i : Int} {left : Go.Lit → Bool} {l : List Int} (h : Came f x left l) (hy : fat f i = some y) (hx : y ≠ x) : Came f x (fun z => left z && !z.sameKey (.int .i64 i)) l := by
  refine ⟨h.1, fun j => ?_⟩
  rw [h.2]
  simp only [sameKey_int, Bool.and_eq_false_iff, Bool.not_eq_false', decide_eq_true_eq]
  constructor
  · rintro ⟨h1, h2, h3⟩; exact ⟨h1, h2, .inl h3⟩
  · rintro ⟨h1, h2, h3 | h3⟩
    · exact ⟨h1, h2, h3⟩
    · subst h3; rw [hy] at h2; injection h2 with h2; exact absurd h2 hx
theorem entry_int {D : DataW Value} {f : Nat → Option Int} (h : InM D f) {key v : Value} {kl : Go.Lit} (hkey : keyOf Try.prog 3 key = some kl) (hat : ∀ zd, D.atKey kl zd = .held v) :
    ∃ i x, key = .int .i64 i ∧ kl = .int .i64 i ∧ v = .int .i64 x ∧ In64 i ∧ fat f i = some x := by
  obtain ⟨i, rfl, rfl, hw⟩ := Maps.keyOf_int_inv Try.underlying3 hkey
  have hi := wf_in hw
  have h1 := (h.2 i hi).1
  rw [Maps.has_true_of_atKey hat] at h1
  obtain ⟨x, hx⟩ := Option.isSome_iff_exists.1 h1.symm
  have h2 := (h.2 i hi).2
  rw [hat, hx] at h2
  injection h2 with h2
  exact ⟨i, x, rfl, rfl, h2, hi, hx⟩
theorem came_all {T : Tab} {n : Nat} (hT : TabOk T n) (hn : n ≤ 7) {k v x : Int} {left : Go.Lit → Bool} {l : List Int} (h : Came (T k v) x left l) (hl : ∀ kl, left kl = false) : (l.mergeSort fun x y => decide (x ≤ y)) = T.who n k v x := by
  rw [sort_rise h.1]
  refine Rise.eq (rise_rise l) (rise_picks _ _) fun i => ?_
  show _ ↔ i ∈ picks (T.has k v x) n
  rw [mem_rise, h.2, mem_picks]
  constructor
  · rintro ⟨_, h2, _⟩
    obtain ⟨j, rfl, hj, ht⟩ := fat_some hT h2
    exact ⟨j, hj, Tab.has_iff.2 ht, rfl⟩
  · rintro ⟨j, hj, ht, rfl⟩
    exact ⟨In64.nat (by omega), by rw [fat_nat]; exact Tab.has_iff.1 ht, hl _⟩
theorem who_none {T : Tab} {n : Nat} {k v x : Int} (h : ∀ i, T k v i = none) : T.who n k v x = [] := by
  refine List.eq_nil_iff_forall_not_mem.2 fun i hi => ?_
  obtain ⟨j, _, ht, _⟩ := mem_picks.1 hi
  rw [Tab.has_iff, h j] at ht; cases ht

set_option maxRecDepth 100000 in
set_option maxHeartbeats 3200000 in
theorem TWho_any {X : Nat → Prop} {w : World} {p : Nat} {t : List Int} {T : Tab} {N : Nat} {k v x : Int} (h0 : Tal X w p t T N) (hN : N ≤ 400) (hk0 : In64 k) (hv0 : In64 v) {L : List Int} (hL0 : T.who t.length k v x = L) :
    Calls Try.prog 23 #[.pointer (some ⟨p, 0, none⟩), .int .i64 k, .int .i64 v, .int .i64 x] w fun e w' => ∃ u, e = .returned u ∧ OwnI w.heap.size w' u L ∧ Ext w w' := by
  refine calls_keep ?_
  obtain ⟨sv, g, D0, m, h⟩ := h0
  have f0 := hide_ h.obj
  have hown := hide_ h.own
  have hrnd := hide_ h.rnd
  have hk := hide_ hk0
  have hv := hide_ hv0
  have hX := Ext.refl w
  have hin0 := h.inn k v
  have hok := hide_ h.ok
  have hlen := hide_ h.st.2.1
  cases hm0 : m k v with
  | none =>
    rw [hm0] at hin0
    have hmb := hide_ hm0
    have hL := hide_ (show L = [] from by rw [← hL0]; exact who_none hin0)
    clear h hk0 hv0 hL0 hin0 hm0
    go_enter Try.func23, Try.ntmps23
    go_wp2_with ((first
      | ((with_reducible refine at_rng ?_); refine w_rangeN Try.underlying65 _ rfl rfl rfl ?_; intro r w2 hx hni; replace hX := hX.trans hx; clear hx)
      | ((with_reducible refine at_field ?_); refine w_field Try.stTal _ _ _ rfl rfl rfl (by omega) ?_)
      | ((with_reducible refine at_load ?_); refine w_fload _ rfl rfl rfl (f0.out.ext hX) rfl (agg_of (by kernel_rfl)) ?_)
      | ((with_reducible refine at_sbuild ?_); refine w_sbuild Try.stRnd [.int .i64 k, .int .i64 v] rfl rfl rfl (by intro x hx; simp at hx; rcases hx with rfl | rfl; exact ⟨by decide, rfl⟩; exact ⟨by decide, rfl⟩) ?_)
      | ((with_reducible refine at_look ?_); refine w_rlook _ _ rfl rfl rfl rfl hk.out hv.out (ownsMap_ext hown.out hX) hrnd.out ?_; rw [hmb.out])
      | fail) <;> (try simp only [Act.put, List.setIfInBounds_toArray, List.set_cons_zero, List.set_cons_succ]))
    go_loopw [9] (fun s wr => s = .slice none 0 0 ∧ NilIter wr r ∧ Ext w wr) (fun _ _ => 0)
    case atStart => exact ⟨rfl, hni, hX⟩
    case round =>
      clear hX hni
      obtain ⟨rfl, hni, hX⟩ := hrel
      have on := OwnI.nil w.heap.size wr
      go_wp2_with ((first
        | ((with_reducible refine at_nxt ?_); refine w_nextN _ rfl rfl rfl hni ?_)
        | (refine wpList_runs rfl (runs_extract rfl rfl rfl) ?_)
        | (go_at_call 38; refine (Sort_own on (by simp)).mono ?_; rintro e w3 ⟨rfl, o3, hm3⟩; replace hX := hm3.after hX (by intro i hi; cases hi))
        | fail) <;> (try simp only [Act.put, List.setIfInBounds_toArray, List.set_cons_zero, List.set_cons_succ]))
      go_ret
      exact Keep.intro ⟨_, rfl, by rw [hL.out]; simpa using o3, hX⟩
  | some b =>
    rw [hm0] at hin0
    have hmb := hide_ hm0
    obtain ⟨n, D, hn, hmap0, hinm0⟩ := hin0
    have hmap := hide_ hmap0
    have hinm := hide_ hinm0
    have hL := hide_ (fun l left (hc : Came (T k v) x left l) hl => (came_all h.ok h.st.2.1 hc hl).trans hL0)
    have hb := hide_ (show b < w.heap.size from hmap0.lt)
    clear h hk0 hv0 hL0 hm0 hmap0 hinm0
    go_enter Try.func23, Try.ntmps23
    go_wp2_with ((first
      | ((with_reducible refine at_rng ?_); refine w_rangeT Try.keyI Try.underlying65 _ rfl rfl rfl (ownsMap_ext hmap.out hX) ?_; intro r w2 hr0 hx hrg; have hr := hide_ (Nat.le_trans hX.size hr0); have hsz := hide_ (ownsMap_ext hmap.out hX).size_le; replace hX := hX.trans hx; clear hx hr0)
      | ((with_reducible refine at_field ?_); refine w_field Try.stTal _ _ _ rfl rfl rfl (by omega) ?_)
      | ((with_reducible refine at_load ?_); refine w_fload _ rfl rfl rfl (f0.out.ext hX) rfl (agg_of (by kernel_rfl)) ?_)
      | ((with_reducible refine at_sbuild ?_); refine w_sbuild Try.stRnd [.int .i64 k, .int .i64 v] rfl rfl rfl (by intro x hx; simp at hx; rcases hx with rfl | rfl; exact ⟨by decide, rfl⟩; exact ⟨by decide, rfl⟩) ?_)
      | ((with_reducible refine at_look ?_); refine w_rlook _ _ rfl rfl rfl rfl hk.out hv.out (ownsMap_ext hown.out hX) hrnd.out ?_; rw [hmb.out])
      | fail) <;> (try simp only [Act.put, List.setIfInBounds_toArray, List.set_cons_zero, List.set_cons_succ]))
    go_loopw [9] (fun s wr => ∃ l left cnt, OwnI w.heap.size wr s l ∧ wr.ranges Try.prog 3 tok b r n D left cnt ∧ Hid (Came (T k v) x left l) ∧ Hid (l.length + cnt ≤ N) ∧ Hid (∀ j, s.ownBlock = some j → j ≠ r ∧ j ≠ b) ∧ Ext w wr) (fun _ wr => wr.rangeLeft b r)
    case atStart => exact ⟨[], _, _, OwnI.nil _ _, hrg, Came.start hinm.out, by have := hsz.out; show 0 + _ ≤ N; omega, (fun j hj => nomatch hj), hX⟩
    case round =>
      clear hX hrg
      obtain ⟨l, left, cnt, hl, hrg, hcame, hcnt, hsep, hX⟩ := hrel
      have hlf := hide_ (show l.length ≤ 1000 from by have := hcnt.out; omega)
      have hmeas := hide_ hrg.left_eq
      go_wp2_with (first
        | (with_reducible refine at_nxt ?_; refine w_nextT Try.keyI _ rfl rfl rfl hrg ?_ ?_)
        | fail)
      · intro hdone
        have hfin := hide_ (hL.out l left hcame.out hdone)
        go_wp2_with ((first
          | (refine wpList_runs rfl (runs_extract rfl rfl rfl) ?_)
          | (go_at_call 38; refine (Sort_own hl hlf.out).mono ?_; rintro e w3 ⟨rfl, o3, hm3⟩; replace hX := hm3.after hX (fun i hi => (hl.own_lt hi).1); rw [hfin.out] at o3)
          | fail) <;> (try simp only [Act.put, List.setIfInBounds_toArray, List.set_cons_zero, List.set_cons_succ]))
        go_ret
        exact Keep.intro ⟨_, rfl, o3, hX⟩
      · intro key vv kl w3 cnt' hkey hlk hat hrg2 hlt hm3 hen
        obtain ⟨i, y, rfl, rfl, rfl, hi64, hfi⟩ := entry_int hinm.out hkey hat
        have hl3 : OwnI w.heap.size w3 u9 l := own_mod hl hm3 (fun j hj e => (hsep.out j hj).1 e)
        replace hX := hm3.after hX (by intro j hj; have e : j = r := hj; rw [e]; exact hr.out)
        have hen' := hide_ hen
        have hlt' := hide_ hlt
        have hbig := hide_ (show (l.length + 1) * 8 ≤ 140737488355328 from by have := hlf.out; omega)
        cases c1 : (y == x)
        · have hc2 := hide_ (hcame.out.no hfi (by intro e; rw [e] at c1; simp at c1))
          clear hl hrg hcame hkey hlk hat hm3 hen hfi hlt
          go_wp2_with ((first
            | ((with_reducible refine at_ent ?_); refine w_entryT _ rfl rfl rfl hen'.out ?_)
            | (refine wpList_runs rfl (runs_extract rfl rfl rfl) ?_)
            | fail) <;> (try simp only [Act.put, List.setIfInBounds_toArray, List.set_cons_zero, List.set_cons_succ]))
          go_roundw
          case rel => exact ⟨l, _, cnt', hl3, hrg2, hc2, by have := hcnt.out; have := hlt'.out; show _ ≤ N; omega, hsep, hX⟩
          case measure => rw [hrg2.left_eq, hmeas.out]; exact hlt'.out
        · have hc2 := hide_ (hcame.out.yes hi64 hlk ((show y = x from by simpa using c1) ▸ hfi))
          clear hl hrg hcame hkey hlk hat hm3 hen hfi hlt
          replace hl := hl3
          replace hrg := hrg2
          clear hl3 hrg2
          go_wp2_with ((first
            | ((with_reducible refine at_ent ?_); refine w_entryT _ rfl rfl rfl hen'.out ?_)
            | (refine wpList_runs rfl (runs_extract rfl rfl rfl) ?_)
            | ((with_reducible refine at_lit ?_); refine w_new Try.elI (i64s [i]) rfl rfl rfl (i64s_cells _) rfl (by omega) ?_; intro v5 w5 hx5 o5; replace o5 : OwnI _ w5 v5 [i] := o5; replace hl := hl.ext hx5; replace hrg := rngs_ext hrg hx5; have hs5 := hide_ (Nat.le_trans (show w.heap.size ≤ w3.heap.size from hX.size) hx5.size); replace hX := hX.trans hx5; clear hx5)
            | ((with_reducible refine at_bi ?_); refine appi _ _ rfl rfl rfl rfl hl o5.ints hbig.out hs5.out ?_; intro v9 w9 o9 hb9 hg9 hg9')
            | fail) <;> (try simp only [Act.put, List.setIfInBounds_toArray, List.set_cons_zero, List.set_cons_succ]))
          have hrb := hide_ (show r < w5.heap.size ∧ b < w5.heap.size from ⟨hrg.lt, hrg.owns.lt⟩)
          have hrg9 : w9.ranges Try.prog 3 tok b r n D _ cnt' := rngs_mod hrg (Mod.grown hg9) (fun e => (hsep.out b e).2 rfl) (fun e => (hsep.out r e).1 rfl)
          go_roundw
          case rel =>
            refine ⟨_, _, cnt', o9, hrg9, hc2, by have := hcnt.out; have := hlt'.out; show _ ≤ N; simp; omega, fun j hj => ?_, hX.trans' hb9⟩
            rcases hg9' with e | e
            · rw [e] at hj; exact hsep.out j hj
            · rw [e] at hj; injection hj with hj; have := hrb.out; omega
          case measure => rw [hrg9.left_eq, hmeas.out]; exact hlt'.out
end Go.Proofs.Ytmhmkaginnddeaa
