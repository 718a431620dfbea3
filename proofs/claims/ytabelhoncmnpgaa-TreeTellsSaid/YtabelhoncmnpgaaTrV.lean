/- The way to a block. -/
import Derived.Test.YtabelhoncmnpgaaTrP
namespace Go.Proofs.Ytabelhoncmnpgaa
set_option maxRecDepth 100000
open Go.RowKit

theorem pathF_len (K : List BlkD) : ∀ (f : Nat) (n : Int), (TrS.pathF f K n).length ≤ f
  | 0, n => by simp [TrS.pathF]
  | f + 1, n => by
    unfold TrS.pathF
    cases TrS.get K n with
    | none => simp
    | some b => have := pathF_len K f b.parent; simp; omega
theorem path_len (K : List BlkD) (n : Int) : (TrS.path K n).length ≤ 4096 := pathF_len K _ n
/-- m[n], by what it says of K. -/
theorem TrC.look6 {X : Nat → Prop} {w : World} {p g : Nat} {v : Value} {K V : List BlkD} (h : TrC X w p g v K V) (n : Int) :
    ∃ cs : List Value, cs.length = 6 ∧ (∀ u ∈ cs, u.oneCell' = true) ∧ Look w g n (.agg cs.toArray) (TrS.has K n) ∧ ∀ d, TrS.get K n = some d → cs[3]? = some (.int .i64 d.parent) ∧ I64 d.parent := by
  obtain ⟨cs, h1, h2, h3, h4⟩ := h.look n
  refine ⟨cs, h1, h2, h3, fun d hd => ?_⟩
  rcases h4 with ⟨hg, _⟩ | ⟨d', u, hg, ht, rfl⟩
  · rw [hg] at hd; cases hd
  · rw [hg] at hd; injection hd with hd; subst hd
    exact ⟨rfl, ht.2.1.par⟩

set_option maxRecDepth 100000 in
set_option maxHeartbeats 3200000 in
theorem Path_any {G : Nat → Prop} {w : World} {p : Nat} {K V : List BlkD} {n : Int} (h0 : TrW G w p K V) (hn : I64 n) :
    Calls Try.prog 32 #[.pointer (some ⟨p, 0, none⟩), .int .i64 n] w fun e w' => ∃ v', e = .returned v' ∧ OwnI w.heap.size w' v' (TrS.path K n) ∧ Ext w w' := by
  refine calls_keep ?_
  obtain ⟨X, g, v, h1, _⟩ := h0
  have f1 := h1.obj
  have uq := hide_ h1.fit.uq
  have hlk := hide_ h1.look6
  have hn' := hide_ hn
  obtain ⟨cs, hlen, hone, hl, hcs0⟩ := h1.look6 n
  replace hl := hide_ hl
  replace hcs0 := hide_ hcs0
  have hX := Ext.refl w
  clear h1
  go_enter Try.func32, Try.ntmps32
  obtain ⟨q, hq⟩ : ∃ q, TrS.has K n = q := ⟨_, rfl⟩
  rw [hq] at hl
  go_wp2_with ((first
    | (refine w_mlook _ _ rfl rfl rfl rfl hl.out hn'.out ?_)
    | ((with_reducible refine at_alloc ?_); refine w_allocN Try.stKn rfl rfl ?_; intro g2 w2 hg2 hx2 f2)
    | ((with_reducible refine at_store ?_); refine w_astoreN Try.stKn _ _ rfl rfl rfl rfl rfl f2 rfl hlen hone ?_; intro w3 hm3 f3; replace f2 : Fs w3 g2 cs := f3; replace hX := hX.trans (hm3.after hx2 (fun i hi => by subst hi; exact hg2)); clear hx2 hm3 f3)
    | ((with_reducible refine at_field ?_); (try refine w_yes _ _ _ rfl rfl rfl ?_); refine w_field Try.stTree _ _ _ rfl rfl rfl (by omega) ?_)
    | ((with_reducible refine at_load ?_); (try refine w_yes _ _ _ rfl rfl rfl ?_); refine w_fload _ rfl rfl rfl f1 rfl (agg_of (by kernel_rfl)) ?_)
    | fail) <;> (try simp only [Act.put, List.setIfInBounds_toArray, List.set_cons_zero, List.set_cons_succ]))
  go_loopw [1, 5, 6, 7] (fun u1 u5 u6 u7 wr => ∃ (m : Int) (l : List Int) (g6 : Nat) (cs : List Value) (q : Bool), u1 = .int .i64 m ∧ u6 = .pointer (some ⟨g6, 0, none⟩) ∧ u7 = .bool q ∧ OwnI w.heap.size wr u5 l ∧ w.heap.size ≤ g6 ∧ (∀ k, u5.ownBlock = some k → ¬ k = g6) ∧ Fs wr g6 cs ∧
      cs.length = 6 ∧ (∀ u ∈ cs, u.oneCell' = true) ∧ Hid (TrS.has K m = q) ∧ Hid (∀ d, TrS.get K m = some d → cs[3]? = some (.int .i64 d.parent) ∧ I64 d.parent) ∧ Hid (TrS.path K n = TrS.path K m ++ l.reverse) ∧ Ext w wr) (fun u1 _ _ _ _ => (TrS.path K (RowKit.intOf u1)).length)
  case atStart => exact ⟨n, [], g2, cs, q, rfl, rfl, rfl, OwnI.nil _ _, hg2, fun k hk => (by cases hk), f2, hlen, hone, hide_ hq, hcs0, hide_ (by simp), hX⟩
  case round =>
    clear hX f2 hl hcs0 hone hlen hq
    obtain ⟨m, l, g6, cs, q, rfl, rfl, rfl, ho, hg6, hne, f6, hlen, hone, hq, hcs, hp, hX⟩ := hrel
    cases q
    · have hpe := hide_ (show l.reverse = TrS.path K n from by
        have hg : TrS.get K m = none := by
          have := get_has (K := K) (n := m)
          rw [hq.out] at this
          cases hg : TrS.get K m with
          | none => rfl
          | some d => rw [hg] at this; cases this
        rw [hp.out, TrS.path_none hg]; rfl)
      have hnew := hide_ (fun k hk => (own_block_lt (g := k) ho hk).1)
      clear hq hcs hp
      go_wp2_with (first
        | (go_at_call 56; refine (Reverse_own ho).mono ?_; rintro e w4 ⟨rfl, o1, hm⟩; rw [hpe.out] at o1; replace hX := hm.after hX hnew.out; clear hm)
        | fail)
      go_ret
      exact Keep.intro ⟨_, rfl, o1, hX⟩
    · obtain ⟨d, hd⟩ : ∃ d, TrS.get K m = some d := by
        have := get_has (K := K) (n := m)
        rw [hq.out] at this
        exact Option.isSome_iff_exists.1 this
      obtain ⟨hc3, hpar⟩ := hcs.out d hd
      have hpe := uq.out.path (TrS.get_some hd).1
      rw [(TrS.get_some hd).2] at hpe
      have hpl := hide_ (show (TrS.path K d.parent).length < (TrS.path K m).length from by rw [hpe]; simp)
      have hp2 := hide_ (show TrS.path K n = TrS.path K d.parent ++ (l ++ [m]).reverse from by rw [hp.out, hpe]; simp)
      have hbig := hide_ (show (l.length + [m].length) * 8 ≤ 140737488355328 from by
        have h1 := congrArg List.length hp.out
        have h2 := path_len K n
        simp at h1 ⊢; omega)
      obtain ⟨cs2, hlen2, hone2, hl2, hcs2⟩ := hlk.out d.parent
      obtain ⟨q2, hq2⟩ : ∃ q2, TrS.has K d.parent = q2 := ⟨_, rfl⟩
      rw [hq2] at hl2
      replace hq2 := hide_ hq2
      replace hl2 := hide_ hl2
      replace hcs2 := hide_ hcs2
      replace hpar := hide_ hpar
      clear hq hcs hp hpe hd
      go_wp2_with ((first
        | (refine w_mlook _ _ rfl rfl rfl rfl (hl2.out.ext hX) hpar.out ?_)
        | ((with_reducible refine at_lit ?_); refine w_new Try.elI (i64s [m]) rfl rfl rfl (i64s_cells _) rfl (by omega) ?_; intro v2 w5 hx3 o2; replace o2 : OwnI _ w5 v2 [m] := o2; replace ho := own_ext ho hx3; replace hX := hX.trans hx3; replace f6 := f6.ext hx3; clear hx3)
        | ((with_reducible refine at_bi ?_); refine appi _ _ rfl rfl rfl rfl ho o2.ints hbig.out hX.size ?_; intro v9 w9 o9 hb9 hg9 hg9'; replace f6 := f6.mod (Mod.grown hg9) (fun hk => hne _ hk rfl); replace hX := hX.trans' hb9; replace ho := o9; clear hb9 hg9 hg9' o9 o2 hne)
        | ((with_reducible refine at_alloc ?_); refine w_allocN Try.stKn rfl rfl ?_; intro g7 w2 hg2 hx2 f7; have hne7 := hide_ (show ∀ k, v9.ownBlock = some k → ¬ k = g7 from fun k hk => Nat.ne_of_lt (Nat.lt_of_lt_of_le (own_block_lt (g := k) ho hk).2 hg2)); have hg7 := Nat.le_trans hX.size hg2; replace ho := own_ext ho hx2; replace hX := hX.trans hx2; clear hx2 hg2 f6)
        | ((with_reducible refine at_store ?_); refine w_astoreN Try.stKn _ _ (us := cs) rfl rfl rfl rfl rfl f7 rfl hlen hone ?_; intro w3 hm3 f3; replace f7 : Fs w3 g7 cs := f3; replace ho := own_mod ho hm3 hne7.out; replace hX := hm3.after hX (fun i hi => by subst hi; exact hg7); clear hm3 f3)
        | ((with_reducible refine at_store ?_); refine w_astoreN Try.stKn _ _ (us := cs2) rfl rfl rfl rfl rfl f7 hlen hlen2 hone2 ?_; intro w3 hm3 f3; replace f7 : Fs w3 g7 cs2 := f3; replace ho := own_mod ho hm3 hne7.out; replace hX := hm3.after hX (fun i hi => by subst hi; exact hg7); clear hm3 f3)
        | ((with_reducible refine at_load ?_); refine w_loadN Try.stKn _ cs rfl rfl rfl f6 hlen (fun j u h => by rw [Nat.zero_add]; exact h) ?_)
        | ((with_reducible refine at_field ?_); refine w_field Try.stBlk _ _ _ rfl rfl rfl (by omega) ?_)
        | ((with_reducible refine at_field ?_); refine w_fieldN (i := 0) (off := 0) (by kernel_rfl) _ _ rfl rfl rfl ?_)
        | ((with_reducible refine at_load ?_); refine w_fload _ rfl rfl rfl f6 hc3 (agg_of (by kernel_rfl)) ?_)
        | ((with_reducible refine at_field ?_); (try refine w_yes _ _ _ rfl rfl rfl ?_); refine w_field Try.stTree _ _ _ rfl rfl rfl (by omega) ?_)
        | ((with_reducible refine at_load ?_); refine w_fload _ rfl rfl rfl (f1.ext hX) rfl (agg_of (by kernel_rfl)) ?_)
        | fail) <;> (try simp only [Act.put, List.setIfInBounds_toArray, List.set_cons_zero, List.set_cons_succ]))
      go_roundw
      case rel => exact ⟨d.parent, l ++ [m], g7, cs2, q2, rfl, rfl, rfl, ho, hg7, hne7.out, f7, hlen2, hone2, hq2, hcs2, hp2, hX⟩
      case measure => exact hpl.out
end Go.Proofs.Ytabelhoncmnpgaa
