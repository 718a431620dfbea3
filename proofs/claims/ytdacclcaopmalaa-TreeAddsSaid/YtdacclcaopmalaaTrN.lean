/- What waited for what is known by now: made known, one after the other: the contract. -/
import Derived.Test.YtdacclcaopmalaaTrG
namespace Go.Proofs.Ytdacclcaopmalaa
set_option maxRecDepth 100000
open Go.RowKit

theorem Mod.then_ext {F : Nat → Prop} {a b c : World} (h : Mod F a b) (k : Ext b c) : Mod F a c := h.trans (k.mod fun _ => False) fun _ _ e => e.elim
theorem At49.mod {X F : Nat → Prop} {D : List BlkD × List BlkD × List Int} {K V : List BlkD} {o : List Int} {cs : List Value} {w w' : World} {ok : Bool} (h : At49 X D K V o cs w ok) (hm : Mod F w w') (hX : ∀ k, X k → ¬ F k) : At49 X D K V o cs w' ok :=
  h.imp id fun ⟨h1, x, u, h2, h3, h4⟩ => ⟨h1, x, u, h2, h3.mod hm hX, h4⟩
theorem take_any {X : Nat → Prop} {w : World} {p g : Nat} {v : Value} {K V : List BlkD} {D : List BlkD × List BlkD × List Int} {o : List Int} (h0 : TrC X w p g v K V) (hX0 : ∀ k, X k → k < w.heap.size) (hn : NextT D K V o) :
    Calls Try.prog 76 #[.pointer (some ⟨p, 1, none⟩), .func (.func 52) #[.pointer (some ⟨p, 0, none⟩)] #[]] w fun e w' => ∃ (cs : List Value) (v' : Value) (ok : Bool) (V' : List BlkD), e = .returned (.tuple #[.agg cs.toArray, .bool ok]) ∧ cs.length = 5 ∧ (∀ u ∈ cs, u.oneCell' = true) ∧
      TrC X w' p g v' K V' ∧ At49 X D K V' o cs w' ok ∧ (∀ k, v'.ownBlock = some k → v.ownBlock = some k) ∧ Mod (fun k => k = p ∨ v.ownBlock = some k) w w' ∧ V'.length + okn (.bool ok) = V.length := by
  cases hp : TrS.pick K V with
  | none =>
    refine (take_none h0 hX0 hp).mono ?_
    rintro e w' ⟨rfl, hx⟩
    exact ⟨_, v, false, V, rfl, rfl, blk_one rfl, h0.ext hx, .inl ⟨rfl, hn.none hp⟩, fun _ h => h, hx.mod _, rfl⟩
  | some q =>
    obtain ⟨x, r⟩ := q
    refine (take_some h0 hX0 hp).mono ?_
    rintro e w' ⟨u, v', rfl, hT, htx, hv, hm⟩
    exact ⟨_, v', true, r, rfl, rfl, blk_one htx.1.one', hT, .inr ⟨rfl, x, u, rfl, htx, hn.some hp, h0.fit.pick hp, (TrS.pick_some hp).1⟩, hv, hm, (pick_len hp).symm⟩

set_option maxRecDepth 100000 in
set_option maxHeartbeats 6400000 in
theorem learnReady_any {X : Nat → Prop} {w : World} {p g : Nat} {v : Value} {K V : List BlkD} (h0 : TrC X w p g v K V) (hX00 : ∀ k, X k → k < w.heap.size) :
    Calls Try.prog 56 #[.pointer (some ⟨p, 0, none⟩)] w fun e w' => ∃ (u3 v' : Value), e = .returned u3 ∧ OwnI w.heap.size w' u3 (TrS.drain V.length K V []).2.2 ∧ TrC X w' p g v' (TrS.drain V.length K V []).1 (TrS.drain V.length K V []).2.1 ∧
      (∀ k, v'.ownBlock = some k → v.ownBlock = some k) ∧ Mod (F49 p g v) w w' := by
  refine calls_keep ?_
  obtain ⟨D, hD⟩ : ∃ D, TrS.drain V.length K V [] = D := ⟨_, rfl⟩
  rw [hD]
  have hnx := hide_ (show NextT D K V [] from ⟨V.length, Nat.le_refl _, hD.symm⟩)
  have hT := h0
  have hX0 := hide_ hX00
  have hl := hide_ h0.lts
  have hfew := h0.fit.few
  have hM := Mod.refl (F49 p g v) w
  have hvv := hide_ (fun k (hk : v.ownBlock = some k) => hk)
  have ho := OwnI.nil w.heap.size w
  have f1 := h0.obj
  clear h0 hX00 hD
  go_enter Try.func56, Try.ntmps56
  go_wp2_with ((first
    | (go_at_call 76; refine (take_any hT hX0.out hnx.out).mono ?_; rintro e w5 ⟨cs2, v2, ok, V2, rfl, hcl2, hone2, hT2, hat, hv2, hmT, hlen2⟩; replace hM := hM.trans hmT (fun k hk h => h.elim .inl fun e => .inr (.inr e)); replace hv2 := hide_ hv2; clear hmT hT ho)
    | ((with_reducible refine at_alloc ?_); refine w_alloc Try.stBlk rfl rfl ?_; intro g7 w2 hg2 hx f7; have hg7 := Nat.le_trans hM.size hg2; replace hT2 := hT2.ext hx; replace hat := hat.mod (hx.mod fun _ => False) (fun _ _ => id); replace hM := hM.then_ext hx; clear hx hg2)
    | ((with_reducible refine at_store ?_); refine w_astore Try.stBlk _ _ (us := cs2) rfl rfl rfl rfl rfl f7 rfl hcl2 hone2 ?_; intro w3 hm3 f3; replace f7 : Fs w3 g7 cs2 := f3; replace hT2 := hT2.mod hm3 (fun k hk e => by have := hX0.out k hk; omega) (fun e => by have := hl.out.1; omega) (fun e => by have := hl.out.2.1; omega) (fun k hk e => by have := hl.out.2.2 k (hv2.out k hk); omega); replace hat := hat.mod hm3 (fun k hk e => by have := hX0.out k hk; omega); replace hM := hM.trans hm3 (fun k hk e => by have := e; omega); clear hm3 f3)
    | ((with_reducible refine at_field ?_); refine w_field Try.stTree _ _ _ rfl rfl rfl (by omega) ?_)
    | fail) <;> (try simp only [Act.put, List.setIfInBounds_toArray, List.set_cons_zero, List.set_cons_succ]))
  go_loopw [3, 4, 5] (fun u3 u4 u5 wr => ∃ (K' V' : List BlkD) (o : List Int) (cs : List Value) (v' : Value) (ok : Bool) (g4 : Nat), u4 = .pointer (some ⟨g4, 0, none⟩) ∧ u5 = .bool ok ∧ OwnI w.heap.size wr u3 o ∧ w.heap.size ≤ g4 ∧ (∀ k, u3.ownBlock = some k → ¬ k = g4) ∧ Fs wr g4 cs ∧ TrC X wr p g v' K' V' ∧ At49 X D K' V' o cs wr ok ∧
      Hid (∀ k, v'.ownBlock = some k → v.ownBlock = some k) ∧ Mod (F49 p g v) w wr ∧ o.length + V'.length + okn (.bool ok) ≤ 17) (fun _ _ u5 wr => qlen wr p + okn u5)
  case atStart => exact ⟨K, V2, [], cs2, v2, ok, g7, rfl, rfl, OwnI.nil _ _, hg7, fun k hk => (by cases hk), f7, hT2, hat, hv2, hM, by simp; omega⟩
  case round =>
    clear hM f7 hT2 hat hv2 hcl2 hone2 hlen2 hg7 hnx f1
    obtain ⟨K', V', o, cs, v', ok', g4, rfl, rfl, ho, hg4, hne, f4, hT, hat, hvv', hM, hcnt⟩ := hrel
    rcases hat with ⟨rfl, hDe⟩ | ⟨rfl, x, u, rfl, htx, hpd, hfx, hrx⟩
    · replace hDe := hide_ hDe
      go_wp2
      go_ret
      exact Keep.intro ⟨_, v', rfl, by rw [hDe.out]; exact ho, by rw [hDe.out]; exact hT, hvv'.out, hM⟩
    · by_cases hk : K'.length < 400
      · have hfull := hide_ (show decide (400 ≤ K'.length) = false from decide_eq_false (by omega))
        have hnx := hide_ (hpd.yes hk)
        have hfl := hide_ (hfx.learn hrx hk)
        have hrx' := hide_ hrx
        have hbig := hide_ (show (o.length + [x.name].length) * 8 ≤ 140737488355328 from by simp; omega)
        have hone := hide_ (blk_one (a := x.slot) (b := x.miner) (c := x.var) (d := x.parent) htx.1.one')
        have hpar := hide_ (show I64 x.parent from htx.2.1.par)
        have hql := hide_ hT.qlen
        have hvv := hvv'
        clear hvv'
        clear hpd hfx hrx hk
        go_wp2_with ((first
          | (go_at_call 76; refine (take_any hT (fun k hk => Nat.lt_of_lt_of_le (hX0.out k hk) hM.size) hnx.out).mono ?_; rintro e w5 ⟨cs2, v2, ok, V2, rfl, hcl2, hone2, hT2, hat, hv2, hmT, hlen2⟩; replace hM := hM.trans hmT (fun k hk h => h.elim .inl fun e => .inr (.inr (hvv.out k e))); replace f7 := f7.mod hmT (fun h => h.elim (fun e => by have := hl.out.1; omega) fun e => by have := hl.out.2.2 _ (hvv.out _ e); omega); replace ho := own_mod ho hmT (fun k hk h => by have h1 := (own_block_lt (g := k) ho hk).1; exact h.elim (fun e => by have := hl.out.1; omega) fun e => by have := hl.out.2.2 _ (hvv.out _ e); omega); have hvv2 := hide_ (fun k hk => hvv.out k (hv2 k hk)); clear hmT hv2 hT)
          | (go_at_call 54; refine (full_any (hT.toW (fun k hk => Nat.lt_of_lt_of_le (hX0.out k hk) hM.size))).mono ?_; rintro e w4 ⟨rfl, hx⟩; rw [hfull.out]; replace hT := hT.ext hx; replace htx := htx.ext hx; replace f4 := f4.ext hx; replace ho := own_ext ho hx; replace hM := hM.then_ext hx; clear hx)
          | (go_at_call 49; refine (BName_any (b := x) htx.1 hpar.out).mono ?_; rintro e w4 ⟨rfl, hx⟩; replace hT := hT.ext hx; replace htx := htx.ext hx; replace f4 := f4.ext hx; replace ho := own_ext ho hx; replace hM := hM.then_ext hx; clear hx)
          | (go_at_call 55; refine (learn_any hT (fun k hk => Nat.lt_of_lt_of_le (hX0.out k hk) hM.size) htx hfl.out hrx'.out).mono ?_; rintro e w4 ⟨rfl, hTL, hmL⟩; replace hT := hTL; replace f4 := f4.mod hmL (fun e => by have := hl.out.2.1; omega); replace ho := own_mod ho hmL (fun k hk e => by have h1 := (own_block_lt (g := k) ho hk).1; have := hl.out.2.1; omega); replace hM := hM.trans hmL (fun _ _ e => .inr (.inl e)); clear hmL hTL htx)
          | ((with_reducible refine at_alloc ?_); refine w_alloc Try.stBlk rfl rfl ?_; intro g7 w2 hg2 hx f7; have hg7 := Nat.le_trans hM.size hg2; have hne7 := hide_ (show ∀ k, _ = some k → ¬ k = g7 from fun k hk => Nat.ne_of_lt (Nat.lt_of_lt_of_le (own_block_lt (g := k) ho hk).2 hg2)); replace hT := hT.ext hx; replace ho := own_ext ho hx; replace hM := hM.then_ext hx; clear hx hg2 f4)
          | ((with_reducible refine at_store ?_); refine w_astore Try.stBlk _ _ (us := bRow x u) rfl rfl rfl rfl rfl f7 rfl rfl hone.out ?_; intro w3 hm3 f3; replace f7 : Fs w3 g7 (bRow x u) := f3; replace hT := hT.mod hm3 (fun k hk e => by have := hX0.out k hk; omega) (fun e => by have := hl.out.1; omega) (fun e => by have := hl.out.2.1; omega) (fun k hk e => by have := hl.out.2.2 k (hvv.out k hk); omega); replace ho := own_mod ho hm3 hne7.out; replace hM := hM.trans hm3 (fun k hk e => by have := e; omega); clear hm3 f3)
          | ((with_reducible refine at_store ?_); refine w_astore Try.stBlk _ _ (us := cs2) rfl rfl rfl rfl rfl f7 rfl hcl2 hone2 ?_; intro w3 hm3 f3; replace f7 : Fs w3 g7 cs2 := f3; replace hT2 := hT2.mod hm3 (fun k hk e => by have := hX0.out k hk; omega) (fun e => by have := hl.out.1; omega) (fun e => by have := hl.out.2.1; omega) (fun k hk e => by have := hl.out.2.2 k (hvv2.out k hk); omega); replace hat := hat.mod hm3 (fun k hk e => by have := hX0.out k hk; omega); replace ho := own_mod ho hm3 hne7.out; replace hM := hM.trans hm3 (fun k hk e => by have := e; omega); clear hm3 f3)
          | ((with_reducible refine at_lit ?_); refine w_new Try.elI (i64s [x.name]) rfl rfl rfl (i64s_cells _) rfl (by omega) ?_; intro v8 w5 hx3 o2; replace o2 : OwnI _ w5 v8 [x.name] := o2; replace ho := own_ext ho hx3; replace hT := hT.ext hx3; replace f4 := f4.ext hx3; replace hM := hM.then_ext hx3; clear hx3)
          | ((with_reducible refine at_bi ?_); refine appi _ _ rfl rfl rfl rfl ho o2.ints hbig.out hM.size ?_; intro v9 w9 o9 hb9 hg9 hg9'; have hgm := Mod.grown hg9; have hge := hide_ (fun k hk => (own_block_lt (g := k) ho hk).1); replace f4 := f4.mod hgm (fun hk => hne _ hk rfl); replace hT := hT.mod hgm (fun k hk e => by have h1 := hX0.out k hk; have h2 := hge.out k e; omega) (fun e => by have h1 := hl.out.1; have h2 := hge.out _ e; omega) (fun e => by have h1 := hl.out.2.1; have h2 := hge.out _ e; omega) (fun k hk e => by have h1 := hl.out.2.2 k (hvv.out k hk); have h2 := hge.out k e; omega); replace hM := hM.trans hgm (fun k hk e => by have h2 := hge.out k e; omega); replace ho := o9; clear hgm hge hb9 hg9 hg9' o9 o2 hne)
          | ((with_reducible refine at_load ?_); refine w_aload Try.stBlk _ rfl rfl rfl f4 rfl ?_)
          | ((with_reducible refine at_field ?_); refine w_field Try.stTree _ _ _ rfl rfl rfl (by omega) ?_)
          | fail) <;> (try simp only [Act.put, List.setIfInBounds_toArray, List.set_cons_zero, List.set_cons_succ]))
        go_roundw
        case rel => exact ⟨_, V2, _, cs2, v2, ok, g7, rfl, rfl, ho, hg7, hne7.out, f7, hT2, hat, hvv2, hM, by simp [okn] at hcnt hlen2 ⊢; omega⟩
        case measure => rw [hT2.qlen, hql.out]; simp only [okn] at hlen2 ⊢; omega
      · have hfull := hide_ (show decide (400 ≤ K'.length) = true from decide_eq_true (by omega))
        have hnx := hide_ (hpd.no hk)
        have hone := hide_ (blk_one (a := x.slot) (b := x.miner) (c := x.var) (d := x.parent) htx.1.one')
        have hpar := hide_ (show I64 x.parent from htx.2.1.par)
        have hql := hide_ hT.qlen
        have hvv := hvv'
        clear hvv'
        clear hpd hfx hrx hk hpar
        go_wp2_with ((first
          | (go_at_call 76; refine (take_any hT (fun k hk => Nat.lt_of_lt_of_le (hX0.out k hk) hM.size) hnx.out).mono ?_; rintro e w5 ⟨cs2, v2, ok, V2, rfl, hcl2, hone2, hT2, hat, hv2, hmT, hlen2⟩; replace hM := hM.trans hmT (fun k hk h => h.elim .inl fun e => .inr (.inr (hvv.out k e))); replace f7 := f7.mod hmT (fun h => h.elim (fun e => by have := hl.out.1; omega) fun e => by have := hl.out.2.2 _ (hvv.out _ e); omega); replace ho := own_mod ho hmT (fun k hk h => by have h1 := (own_block_lt (g := k) ho hk).1; exact h.elim (fun e => by have := hl.out.1; omega) fun e => by have := hl.out.2.2 _ (hvv.out _ e); omega); have hvv2 := hide_ (fun k hk => hvv.out k (hv2 k hk)); clear hmT hv2 hT)
          | (go_at_call 54; refine (full_any (hT.toW (fun k hk => Nat.lt_of_lt_of_le (hX0.out k hk) hM.size))).mono ?_; rintro e w4 ⟨rfl, hx⟩; rw [hfull.out]; replace hT := hT.ext hx; replace htx := htx.ext hx; replace f4 := f4.ext hx; replace ho := own_ext ho hx; replace hM := hM.then_ext hx; clear hx)
          | ((with_reducible refine at_alloc ?_); refine w_alloc Try.stBlk rfl rfl ?_; intro g7 w2 hg2 hx f7; have hg7 := Nat.le_trans hM.size hg2; have hne7 := hide_ (show ∀ k, _ = some k → ¬ k = g7 from fun k hk => Nat.ne_of_lt (Nat.lt_of_lt_of_le (own_block_lt (g := k) ho hk).2 hg2)); replace hT := hT.ext hx; replace ho := own_ext ho hx; replace hM := hM.then_ext hx; clear hx hg2 f4)
          | ((with_reducible refine at_store ?_); refine w_astore Try.stBlk _ _ (us := bRow x u) rfl rfl rfl rfl rfl f7 rfl rfl hone.out ?_; intro w3 hm3 f3; replace f7 : Fs w3 g7 (bRow x u) := f3; replace hT := hT.mod hm3 (fun k hk e => by have := hX0.out k hk; omega) (fun e => by have := hl.out.1; omega) (fun e => by have := hl.out.2.1; omega) (fun k hk e => by have := hl.out.2.2 k (hvv.out k hk); omega); replace ho := own_mod ho hm3 hne7.out; replace hM := hM.trans hm3 (fun k hk e => by have := e; omega); clear hm3 f3)
          | ((with_reducible refine at_store ?_); refine w_astore Try.stBlk _ _ (us := cs2) rfl rfl rfl rfl rfl f7 rfl hcl2 hone2 ?_; intro w3 hm3 f3; replace f7 : Fs w3 g7 cs2 := f3; replace hT2 := hT2.mod hm3 (fun k hk e => by have := hX0.out k hk; omega) (fun e => by have := hl.out.1; omega) (fun e => by have := hl.out.2.1; omega) (fun k hk e => by have := hl.out.2.2 k (hvv2.out k hk); omega); replace hat := hat.mod hm3 (fun k hk e => by have := hX0.out k hk; omega); replace ho := own_mod ho hm3 hne7.out; replace hM := hM.trans hm3 (fun k hk e => by have := e; omega); clear hm3 f3)
          | ((with_reducible refine at_load ?_); refine w_aload Try.stBlk _ rfl rfl rfl f4 rfl ?_)
          | ((with_reducible refine at_field ?_); refine w_field Try.stTree _ _ _ rfl rfl rfl (by omega) ?_)
          | fail) <;> (try simp only [Act.put, List.setIfInBounds_toArray, List.set_cons_zero, List.set_cons_succ]))
        go_roundw
        case rel => exact ⟨_, V2, _, cs2, v2, ok, g7, rfl, rfl, ho, hg7, hne7.out, f7, hT2, hat, hvv2, hM, by simp only [okn] at hcnt hlen2 ⊢; omega⟩
        case measure => rw [hT2.qlen, hql.out]; simp only [okn] at hlen2 ⊢; omega
end Go.Proofs.Ytdacclcaopmalaa
