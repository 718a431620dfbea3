/- The views in which anybody voted, rising. -/
import Derived.Test.YtmhmkaginnddeaaTlC2
namespace Go.Proofs.Ytmhmkaginnddeaa
set_option maxRecDepth 100000
open Go.RowKit Go.Sort Go.Lib

/-- What has come of the entries: their views. -/
def CameV (m : Int → Int → Option Nat) (left : Go.Lit → Bool) (l : List Int) : Prop :=
  ∀ x, x ∈ l ↔ ∃ k, m k x ≠ none ∧ left (rkL k x) = false
theorem CameV.start {D : DataW Value} {m : Int → Int → Option Nat} (h : RndM D m) : CameV m (Maps.has D) [] :=
  fun x => ⟨(fun h => nomatch h), fun ⟨k, h1, h2⟩ => by
    have hi := h.in64 h1
    rw [(h.get k x hi.1 hi.2).1] at h2
    cases hm : m k x with
    | none => exact absurd hm h1
    | some b => rw [hm] at h2; cases h2⟩
theorem CameV.step {D : DataW Value} {m : Int → Int → Option Nat} (hR : RndM D m) {left : Go.Lit → Bool} {l : List Int} (h : CameV m left l) {k v : Int} (hm : m k v ≠ none) : CameV m (fun z => left z && !z.sameKey (rkL k v)) (l ++ [v]) := by
  intro x
  rw [List.mem_append, h, List.mem_singleton]
  simp only [Bool.and_eq_false_iff, Bool.not_eq_false']
  constructor
  · rintro (⟨k', h1, h2⟩ | rfl)
    · exact ⟨k', h1, .inl h2⟩
    · exact ⟨k, hm, .inr (WideAt.sameKey_self (rkL_key _ _))⟩
  · rintro ⟨k', h1, h2 | h2⟩
    · exact .inl ⟨k', h1, h2⟩
    · have hi := hR.in64 hm
      have hi' := hR.in64 h1
      exact .inr (rkL_inj hi'.1 hi'.2 hi.1 hi.2 (WideAt.sameKey_eq h2)).2
/-- The views in which anybody voted. -/
structure Vws (T : Tab) (N : Nat) (V : List Int) : Prop where
  rise : Rise V
  all : ∀ k w i, T k w i ≠ none → w ∈ V
  fit : ∀ w ∈ V, 0 ≤ w ∧ w ≤ 1000
  len : V.length ≤ N
/-- The views of a map of maps. -/
def vwsOf (m : Int → Int → Option Nat) : List Int := picks (fun v => (m 4 v).isSome || (m 5 v).isSome) 1001
theorem mem_vws {D : DataW Value} {m : Int → Int → Option Nat} (hR : RndM D m) {v : Int} : v ∈ vwsOf m ↔ ∃ k, m k v ≠ none := by
  unfold vwsOf
  rw [mem_picks]
  constructor
  · rintro ⟨i, _, h, rfl⟩
    rcases Bool.or_eq_true_iff.1 h with h | h
    · exact ⟨4, fun e => by rw [e] at h; cases h⟩
    · exact ⟨5, fun e => by rw [e] at h; cases h⟩
  · rintro ⟨k, h⟩
    obtain ⟨hk, h1, h2⟩ := hR.dom k v h
    have e : v = ((v.toNat : Nat) : Int) := by omega
    refine ⟨v.toNat, by omega, ?_, e⟩
    rw [← e, Bool.or_eq_true_iff]
    have hs : (m k v).isSome = true := by cases hm : m k v with | none => exact absurd hm h | some b => rfl
    rcases hk with rfl | rfl
    · exact .inl hs
    · exact .inr hs
theorem TalW.vws {X : Nat → Prop} {w : World} {p g N : Nat} {sv : Value} {D : DataW Value} {m : Int → Int → Option Nat} {t : List Int} {T : Tab} (h : TalW X w p sv g D m t T N) : Vws T 1001 (vwsOf m) := by
  refine ⟨rise_picks _ _, fun k v i hT => ?_, fun v hv => ?_, picks_len _ _⟩
  · rw [mem_vws h.rnd]
    refine ⟨k, fun hm => ?_⟩
    have := h.inn k v
    rw [hm] at this
    exact hT (this i)
  · rw [mem_vws h.rnd] at hv
    obtain ⟨k, hm⟩ := hv
    exact (h.rnd.dom k v hm).2
theorem CameV.all {D : DataW Value} {m : Int → Int → Option Nat} (hR : RndM D m) {left : Go.Lit → Bool} {l : List Int} (hc : CameV m left l) (hl : ∀ kl, left kl = false) : rise l = vwsOf m :=
  Rise.eq (rise_rise l) (rise_picks _ _) fun v => by
    show _ ↔ v ∈ vwsOf m
    rw [mem_rise, hc, mem_vws hR]
    exact ⟨fun ⟨k, h1, _⟩ => ⟨k, h1⟩, fun ⟨k, h1⟩ => ⟨k, h1, hl _⟩⟩

set_option maxRecDepth 100000 in
set_option maxHeartbeats 3200000 in
theorem views_any {X : Nat → Prop} {w : World} {p g N : Nat} {sv : Value} {D : DataW Value} {m : Int → Int → Option Nat} {t : List Int} {T : Tab} (h : TalW X w p sv g D m t T N) (hN : N ≤ 400) :
    Calls Try.prog 30 #[.pointer (some ⟨p, 0, none⟩)] w fun e w' => ∃ u, e = .returned u ∧ OwnI w.heap.size w' u (vwsOf m) ∧ Ext w w' := by
  refine calls_keep ?_
  have f0 := hide_ h.obj
  have hown := hide_ h.own
  have hrnd := hide_ h.rnd
  have hX := Ext.refl w
  have hfin := hide_ (fun left l (hc : CameV m left l) hl => hc.all h.rnd hl)
  have hg := hide_ (show g < w.heap.size from h.own.lt)
  clear h
  go_enter Try.func30, Try.ntmps30
  go_wp2_with ((first
    | ((with_reducible refine at_rng ?_); refine w_rangeT Try.keyR Try.underlying53 _ rfl rfl rfl (ownsMap_ext hown.out hX) ?_; intro r w2 hr0 hx hrg; have hr := hide_ (Nat.le_trans hX.size hr0); have hsz := hide_ (ownsMap_ext hown.out hX).size_le; replace hX := hX.trans hx; clear hx hr0)
    | ((with_reducible refine at_field ?_); refine w_field Try.stTal _ _ _ rfl rfl rfl (by omega) ?_)
    | ((with_reducible refine at_load ?_); refine w_fload _ rfl rfl rfl (f0.out.ext hX) rfl (agg_of (by kernel_rfl)) ?_)
    | fail) <;> (try simp only [Act.put, List.setIfInBounds_toArray, List.set_cons_zero, List.set_cons_succ]))
  go_loopw [3] (fun s wr => ∃ l left cnt, OwnI w.heap.size wr s l ∧ wr.ranges Try.prog 67 tok g r N D left cnt ∧ Hid (CameV m left l) ∧ Hid (l.length + cnt ≤ N) ∧ Hid (∀ j, s.ownBlock = some j → j ≠ r ∧ j ≠ g) ∧ Ext w wr) (fun _ wr => wr.rangeLeft g r)
  case atStart => exact ⟨[], _, _, OwnI.nil _ _, hrg, CameV.start hrnd.out, by have := hsz.out; show 0 + _ ≤ N; omega, (fun j hj => nomatch hj), hX⟩
  case round =>
    clear hX hrg
    obtain ⟨l, left, cnt, hl, hrg, hcame, hcnt, hsep, hX⟩ := hrel
    have hlf := hide_ (show l.length ≤ 1000 from by have := hcnt.out; omega)
    have hmeas := hide_ hrg.left_eq
    go_wp2_with (first
      | (with_reducible refine at_nxt ?_; refine w_nextT Try.keyR _ rfl rfl rfl hrg ?_ ?_)
      | fail)
    · intro hdone
      have hV := hide_ (hfin.out left l hcame.out hdone)
      have hcs := hide_ (compact_sort l)
      go_wp2_with ((first
        | (refine wpList_runs rfl (runs_extract rfl rfl rfl) ?_)
        | (go_at_call 38; refine (Sort_own hl hlf.out).mono ?_; rintro e w3 ⟨rfl, o3, hm3⟩; replace hX := hm3.after hX (fun i hi => (hl.own_lt hi).1))
        | (go_at_call 41; refine (Compact_own o3).mono ?_; rintro e w4 ⟨u, rfl, o4, hm4⟩; rw [hcs.out, hV.out] at o4; replace hX := hm4.after hX (fun i hi => (o3.own_lt hi).1))
        | fail) <;> (try simp only [Act.put, List.setIfInBounds_toArray, List.set_cons_zero, List.set_cons_succ]))
      go_ret
      exact Keep.intro ⟨u, rfl, o4, hX⟩
    · intro key vv kl w3 cnt' hkey hlk hat hrg2 hlt hm3 hen
      obtain ⟨k, v, rfl, rfl, hk64, hv64⟩ := keyR_inv hkey
      have hkv : m k v ≠ none := by
        have h1 := (hrnd.out.get k v hk64 hv64).1
        rw [Maps.has_true_of_atKey hat] at h1
        intro e; rw [e] at h1; cases h1
      have hl3 : OwnI w.heap.size w3 u3 l := own_mod hl hm3 (fun j hj e => (hsep.out j hj).1 e)
      replace hX := hm3.after hX (by intro j hj; have e : j = r := hj; rw [e]; exact hr.out)
      have hen' := hide_ hen
      have hlt' := hide_ hlt
      have hbig := hide_ (show (l.length + 1) * 8 ≤ 140737488355328 from by have := hlf.out; omega)
      have hc2 := hide_ (hcame.out.step hrnd.out hkv)
      clear hl hrg hcame hkey hlk hat hm3 hen hlt hkv
      replace hl := hl3
      replace hrg := hrg2
      clear hl3 hrg2
      go_wp2_with ((first
        | ((with_reducible refine at_ent ?_); refine w_entryT _ rfl rfl rfl hen'.out ?_)
        | (refine wpList_runs rfl (runs_extract rfl rfl rfl) ?_)
        | ((with_reducible refine at_alloc ?_); refine w_alloc Try.stRnd rfl rfl ?_; intro g4 w4 hg40 hx4 f4; have hg4 := hide_ hg40; clear hg40)
        | ((with_reducible refine at_store ?_); refine w_astore Try.stRnd _ _ (us := [.int .i64 k, .int .i64 v]) rfl rfl rfl rfl rfl f4 rfl rfl (by intro u hu; simp at hu; rcases hu with rfl | rfl <;> rfl) ?_; intro w5 hm5 f4'; replace f4 := f4'; have hx := hm5.after hx4 (by intro j hj; have e : j = g4 := hj; rw [e]; exact hg4.out); replace hl := hl.ext hx; replace hrg := rngs_ext hrg hx; replace hX := hX.trans hx; clear hx hx4 hm5 f4')
        | ((with_reducible refine at_field ?_); refine w_field Try.stRnd _ _ _ rfl rfl rfl (by omega) ?_)
        | ((with_reducible refine at_load ?_); refine w_fload _ rfl rfl rfl f4 rfl (agg_of (by kernel_rfl)) ?_)
        | ((with_reducible refine at_lit ?_); refine w_new Try.elI (i64s [v]) rfl rfl rfl (i64s_cells _) rfl (by omega) ?_; intro v5 w6 hx5 o5; replace o5 : OwnI _ w6 v5 [v] := o5; have hs5 := hide_ (Nat.le_trans (show w.heap.size ≤ w5.heap.size from hX.size) hx5.size); replace hl := hl.ext hx5; replace hrg := rngs_ext hrg hx5; replace hX := hX.trans hx5; clear hx5)
        | ((with_reducible refine at_bi ?_); refine appi _ _ rfl rfl rfl rfl hl o5.ints hbig.out hs5.out ?_; intro v9 w9 o9 hb9 hg9 hg9')
        | fail) <;> (try simp only [Act.put, List.setIfInBounds_toArray, List.set_cons_zero, List.set_cons_succ]))
      have hrb := hide_ (show r < w6.heap.size ∧ g < w6.heap.size from ⟨hrg.lt, hrg.owns.lt⟩)
      have hrg9 : w9.ranges Try.prog 67 tok g r N D _ cnt' := rngs_mod hrg (Mod.grown hg9) (fun e => (hsep.out g e).2 rfl) (fun e => (hsep.out r e).1 rfl)
      go_roundw
      case rel =>
        refine ⟨_, _, cnt', o9, hrg9, hc2, by have := hcnt.out; have := hlt'.out; show _ ≤ N; simp; omega, fun j hj => ?_, hX.trans' hb9⟩
        rcases hg9' with e | e
        · rw [e] at hj; exact hsep.out j hj
        · rw [e] at hj; injection hj with hj; have := hrb.out; omega
      case measure => rw [hrg9.left_eq, hmeas.out]; exact hlt'.out
end Go.Proofs.Ytmhmkaginnddeaa
