/- The statement MempoolRuns: whatever is done with a pool: all answers, what is in it, and what is picked. No condition. -/
import Derived.Test.YtdacclcaopmalaaMLa
import Derived.Test.YtdacclcaopmalaaMAct
import Derived.Test.YtdacclcaopmalaaArgI
namespace Go.Proofs.Ytdacclcaopmalaa
set_option maxRecDepth 100000
open Go.RowKit Go.ChangeShapes Go.WideShapes Go.ChangeAt

theorem act_one {w : World} {k i f : Int} {u : Value} {ids : List Int} (h : Ints w u ids) : ∀ x ∈ [Value.int .i64 k, .int .i64 i, .int .i64 f, u], x.oneCell' = true := by
  obtain ⟨A, c, rfl, _⟩ := h
  intro x hx
  simp only [List.mem_cons, List.not_mem_nil, or_false] at hx
  rcases hx with rfl | rfl | rfl | rfl <;> rfl
theorem two_at (k i f u : Value) : ∀ (j : Nat) (x : Value), [i, f][j]? = some x → [k, i, f, u][1 + j]? = some x := fun j x h => by
  match j, h with
  | 0, h => exact h
  | 1, h => exact h
  | j + 2, h => simp at h

set_option maxRecDepth 100000 in
set_option maxHeartbeats 6400000 in
theorem mempoolRuns_law (v0 : Value) (l : List ActP) (many : Int) (vi : Value) (skip : List Int) (W : World) (hl00 : Recs 4 ActPR W v0 l) (_hm : I64 many) (hs00 : Ints W vi skip) (_hs : ∀ x ∈ skip, -9223372036854775808 ≤ x ∧ x ≤ 9223372036854775807) : Calls Try.prog 4 #[v0, .int .i64 many, vi] W fun e w' => e = .returned (.bool true) ∧ Ext W w' := by
  refine calls_keep ?_
  have hl0 := hide_ hl00
  have hs0 := hide_ hs00
  have hmax := hl00.len_le
  unfold maxLen at hmax
  clear hl00 hs00 _hs _hm
  by_cases hbigl : 100 < l.length
  · have t1 : decide ((100 : Int) < (l.length : Int)) = true := decide_eq_true (by omega)
    go_enter Try.func4, Try.ntmps4
    go_wp2_with ((first
      | (go_at_call 10; refine (poolAlive_any _).mono ?_; rintro e w2 ⟨rfl, hX⟩)
      | ((with_reducible refine at_bi ?_); refine w_rlen Try.elAP _ rfl rfl rfl (hl0.out.ext ActPR.stays hX) ?_)
      | fail) <;> (try simp only [Act.put, List.setIfInBounds_toArray, List.set_cons_zero, List.set_cons_succ]))
    go_ret
    exact Keep.intro ⟨rfl, hX⟩
  have t1 : decide ((100 : Int) < (l.length : Int)) = false := decide_eq_false (by omega)
  go_enter Try.func4, Try.ntmps4
  go_wp2_with ((first
    | (go_at_call 11; refine (PNew_any (w := _)).mono ?_; rintro e w1 ⟨p, rfl, hP, hx, hp⟩; have hO : Out W (fun k => k = p) w1 := ⟨hX.trans hx, fun k hk => hk ▸ Nat.le_trans hX.size hp⟩; clear hX hx hp)
    | (go_at_call 10; refine (poolAlive_any _).mono ?_; rintro e w2 ⟨rfl, hX⟩)
    | ((with_reducible refine at_bi ?_); have _t := hX; refine w_rlen Try.elAP _ rfl rfl rfl (hl0.out.ext ActPR.stays hX) ?_)
    | ((with_reducible refine at_lit ?_); refine w_nnew Try.elTxN [] rfl rfl rfl (by simp) rfl (by omega) ?_; intro v8 w3 B hB1 hB2 hx3 hn0; have ho := OwnT.of (lo := W.heap.size) (l := []) hn0 (by simp) (fun k h => Nat.le_trans hO.ext.size (Nat.le_trans hB1 (And.left h))); have hsep : ∀ q, v8.ownBlock = some q → ¬ q = p := (fun q hq e => by have h1 := (hn0.inF q hq).1; have h2 := hP.lt p rfl; omega); replace hP := hP.ext hx3; replace hO := hO.extend hx3; clear hn0 hx3 hB1 hB2)
    | ((with_reducible refine at_bi ?_); refine w_rlen Try.elAP _ rfl rfl rfl (hl0.out.ext ActPR.stays hO.ext) ?_)
    | fail) <;> (try simp only [Act.put, List.setIfInBounds_toArray, List.set_cons_zero, List.set_cons_succ]))
  go_loopw [8, 23] (fun u8 i wr => ∃ (k : Nat) (F : Nat → Prop) (X : List TxD), i = .int .i64 k ∧ k ≤ l.length ∧ Mem.Ok X ∧ Pl F wr p X ∧ OwnT W.heap.size wr u8 X ∧ (∀ q, u8.ownBlock = some q → ¬ F q) ∧ Out W F wr) (fun _ i _ => l.length - (RowKit.intOf i).toNat)
  case atStart => exact ⟨0, _, [], rfl, Nat.zero_le _, Mem.Ok.nil, hP, ho, hsep, hO⟩
  case round =>
    clear hP ho hsep hO
    obtain ⟨k, F, X, rfl, hk, hok, hP, ho, hsep, hO⟩ := hrel
    have hfew := hide_ hok.few
    by_cases hge : l.length ≤ k
    · obtain rfl : k = l.length := by omega
      have t2 : decide (l.length < l.length) = false := by simp
      obtain ⟨Z, hZ⟩ : ∃ Z, Mem.pick X many skip = Z := ⟨_, rfl⟩
      have hZ' := hide_ hZ
      clear hge hk hok hZ hsep
      go_wp2_with (first
        | (go_at_call 18; refine (PPick_any (many := many) hP hfew.out (hs0.out.ext hO.ext)).mono ?_; rintro e w7 ⟨v64, rfl, o64, hx⟩; rw [hZ'.out] at o64; replace o64 := o64.recs; replace ho := ho.ext hx; replace hO := hO.extend hx; clear hx hP)
        | (go_at_call 19; refine (refPick_any (many := many) ho.recs hfew.out (hs0.out.ext hO.ext)).mono ?_; rintro e w7 ⟨v68, rfl, o68, hx⟩; rw [hZ'.out] at o68; replace o68 := o68.recs; replace o64 := o64.ext TxR.stays hx; replace hO := hO.extend hx; clear hx ho)
        | (go_at_call 17; refine (Same_any (l := Z) (m := Z) o64 o68).mono ?_; rintro e w8 ⟨rfl, hx⟩; rw [decide_eq_true rfl]; replace hO := hO.extend hx; clear hx o64 o68)
        | fail)
      go_ret
      exact Keep.intro ⟨rfl, hO.ext⟩
    have hlt : k < l.length := by omega
    have t2 : decide (k < l.length) = true := by simpa using hlt
    obtain ⟨d, hd0⟩ : ∃ d, l[k]? = some d := ⟨_, List.getElem?_eq_getElem hlt⟩
    have hd := hide_ hd0
    have hlt' := hide_ hlt
    have hkb : k ≤ 100 := by omega
    have hok1 := hide_ hok
    cases c : (d.k == 1)
    · obtain ⟨⟨X2, er⟩, hR0⟩ : ∃ R, Mem.add X d.t = R := ⟨_, rfl⟩
      have hok2 := hide_ (show Mem.Ok X2 from by have := hok.add d.t; rw [hR0] at this; exact this)
      have hfew2 := hide_ hok2.out.few
      have hR := hide_ hR0
      clear hge hlt hd0 hok hR0
      go_wp2_with ((first
        | (go_at_call 12; refine (PList_any hP hfew2.out).mono ?_; rintro e w7 ⟨v56, rfl, o56, hx⟩; replace o56 := o56.recs; replace hP := hP.ext hx; replace ho := ho.ext hx; replace hO := hO.extend hx; clear hx f10)
        | (go_at_call 17; refine (Same_any (l := X2) (m := X2) o56 ho.recs).mono ?_; rintro e w8 ⟨rfl, hx⟩; rw [decide_eq_true rfl]; replace hP := hP.ext hx; replace ho := ho.ext hx; replace hO := hO.extend hx; clear hx o56)
        | (go_at_call 13; refine (PAdd_any (t := d.t) hP hok1.out hdr.out).mono ?_; rintro e w5 ⟨F2, rfl, hP2, hU⟩; rw [hR.out] at hP2; rw [hR.out]; have hlo := hO.ext.size; have hsep2 := hide_ (show ∀ q, u8.ownBlock = some q → ¬ F2 q from fun q hq h => (hU.sub q h).elim (hsep q hq) (fun e => by have := ho.lt hq; omega)); replace f10 := f10.mod hU.mod n10.out; replace ho := ho.mod hU.mod hsep; replace hO := hO.upd hU; replace hP := hP2; clear hU hP2 hsep)
        | (go_at_call 16; refine (refAdd9 (t := d.t) ho hO.ext.size hok1.out hdr.out).mono ?_; rintro e w6 ⟨v48, rfl, o48, hb48, hx⟩; rw [hR.out] at o48; rw [hR.out]; have hsep3 := hide_ (show ∀ q, v48.ownBlock = some q → ¬ F2 q from fun q hq h => (hb48 q hq).elim (fun e => hsep2.out q e h) (fun e => by have := hP.lt q h; omega)); replace ho := o48; replace hP := hP.ext hx; replace f10 := f10.ext hx; replace hO := hO.extend hx; clear hx o48 hb48 hsep2)
        | ((with_reducible refine at_idx ?_); refine w_actidx Try.elAP _ _ k rfl rfl rfl rfl hl0.out hO.ext hd.out ?_; intro pa u hrow hu0 hdr0 hlen0; have hone := hide_ (act_one (k := d.k) (i := d.t.id) (f := d.t.fee) hu0); replace hrow := hide_ hrow; have hu := hide_ hu0; have hdr := hide_ hdr0; have hbig := hide_ (show (([] : List Int).length + d.ids.length) * 8 ≤ 140737488355328 from by simp; omega); clear hu0 hdr0 hlen0)
        | ((with_reducible refine at_load ?_); refine w_ploadN Try.stAP _ rfl rfl rfl hrow.out rfl ?_)
        | ((with_reducible refine at_alloc ?_); refine w_allocN Try.stAP rfl rfl ?_; intro g10 w3 hg10 hx2 f10; have n10 := hide_ (show ¬ F g10 from fun h => by have := hP.lt g10 h; omega); have nw10 := hide_ (show ∀ q, u8.ownBlock = some q → ¬ q = g10 from fun q hq e => by have := ho.lt hq; omega))
        | ((with_reducible refine at_store ?_); refine w_astoreN Try.stAP _ _ (us := [.int .i64 d.k, .int .i64 d.t.id, .int .i64 d.t.fee, u]) rfl rfl rfl rfl rfl f10 rfl rfl hone.out ?_; intro w4 hm3 f9; replace hx2 := hm3.after hx2 (fun i hi => by subst hi; exact hg10); replace f10 := f9; replace hP := hP.ext hx2; replace ho := ho.ext hx2; replace hO := hO.extend hx2; clear hm3 f9 hx2 hg10 nw10)
        | ((with_reducible refine at_field ?_); refine w_fieldN (i := 0) (off := 0) (by kernel_rfl) _ _ rfl rfl rfl ?_)
        | ((with_reducible refine at_field ?_); refine w_fieldN (i := 1) (off := 1) (by kernel_rfl) _ _ rfl rfl rfl ?_)
        | ((with_reducible refine at_load ?_); refine w_loadN Try.stTxN _ [.int .i64 d.t.id, .int .i64 d.t.fee] rfl rfl rfl f10 rfl (two_at _ _ _ _) ?_)
        | ((with_reducible refine at_load ?_); refine w_fload _ rfl rfl rfl f10 rfl (agg_of (by kernel_rfl)) ?_)
        | fail) <;> (try simp only [Act.put, List.setIfInBounds_toArray, List.set_cons_zero, List.set_cons_succ]))
      go_roundw
      case rel => exact ⟨k + 1, F2, X2, by go_num, hlt'.out, hok2.out, hP, ho, hsep3.out, hO⟩
      case measure => have := hlt'.out; simp [RowKit.intOf]; omega
    · obtain ⟨X2, hR0⟩ : ∃ R, Mem.drop X d.ids = R := ⟨_, rfl⟩
      have hok2 := hide_ (show Mem.Ok X2 from hR0 ▸ hok.drop d.ids)
      have hfew2 := hide_ hok2.out.few
      have hR := hide_ hR0
      clear hge hlt hd0 hok hR0
      go_wp2_with ((first
        | (go_at_call 12; refine (PList_any hP hfew2.out).mono ?_; rintro e w7 ⟨v56, rfl, o56, hx⟩; replace o56 := o56.recs; replace hP := hP.ext hx; replace ho := ho.ext hx; replace hO := hO.extend hx; clear hx f10)
        | (go_at_call 17; refine (Same_any (l := X2) (m := X2) o56 ho.recs).mono ?_; rintro e w8 ⟨rfl, hx⟩; rw [decide_eq_true rfl]; replace hP := hP.ext hx; replace ho := ho.ext hx; replace hO := hO.extend hx; clear hx o56)
        | (go_at_call 14; refine (PDrop_any hP hfew.out o34.ints (fun q hq h => by have h1 := (own_block_lt (g := q) o34 hq).1; have h2 := hFb.out q h; omega)).mono ?_; rintro e w5 ⟨rfl, hP2, hm5⟩; rw [hR.out] at hP2; replace f10 := f10.mod hm5 n10.out; replace ho := ho.mod hm5 hsep; replace hO := hO.upd ⟨hm5, fun _ h => .inl h⟩; replace hP := hP2; clear hm5 hP2 o34)
        | (go_at_call 15; refine (refDrop_any (ids := d.ids) ho.recs hfew.out (hu.out.ext hO.ext)).mono ?_; rintro e w6 ⟨v39, rfl, o39, hx⟩; rw [hR.out] at o39; have hsep3 := hide_ (show ∀ q, v39.ownBlock = some q → ¬ F q from fun q hq h => by have h1 := o39.new q hq; have h2 := hP.lt q h; omega); replace ho := o39.mono hO.ext.size; replace hP := hP.ext hx; replace f10 := f10.ext hx; replace hO := hO.extend hx; clear hx o39)
        | ((with_reducible refine at_idx ?_); refine w_actidx Try.elAP _ _ k rfl rfl rfl rfl hl0.out hO.ext hd.out ?_; intro pa u hrow hu0 hdr0 hlen0; have hone := hide_ (act_one (k := d.k) (i := d.t.id) (f := d.t.fee) hu0); replace hrow := hide_ hrow; have hu := hide_ hu0; have hdr := hide_ hdr0; have hbig := hide_ (show (([] : List Int).length + d.ids.length) * 8 ≤ 140737488355328 from by simp; omega); clear hu0 hdr0 hlen0)
        | ((with_reducible refine at_load ?_); refine w_ploadN Try.stAP _ rfl rfl rfl hrow.out rfl ?_)
        | ((with_reducible refine at_alloc ?_); refine w_allocN Try.stAP rfl rfl ?_; intro g10 w3 hg10 hx2 f10; have n10 := hide_ (show ¬ F g10 from fun h => by have := hP.lt g10 h; omega); have nw10 := hide_ (show ∀ q, u8.ownBlock = some q → ¬ q = g10 from fun q hq e => by have := ho.lt hq; omega))
        | ((with_reducible refine at_store ?_); refine w_astoreN Try.stAP _ _ (us := [.int .i64 d.k, .int .i64 d.t.id, .int .i64 d.t.fee, u]) rfl rfl rfl rfl rfl f10 rfl rfl hone.out ?_; intro w4 hm3 f9; replace hx2 := hm3.after hx2 (fun i hi => by subst hi; exact hg10); replace f10 := f9; replace hP := hP.ext hx2; replace ho := ho.ext hx2; replace hO := hO.extend hx2; clear hm3 f9 hx2 hg10 nw10)
        | ((with_reducible refine at_field ?_); refine w_fieldN (i := 0) (off := 0) (by kernel_rfl) _ _ rfl rfl rfl ?_)
        | ((with_reducible refine at_field ?_); refine w_fieldN (i := 2) (off := 3) (by kernel_rfl) _ _ rfl rfl rfl ?_)
        | ((with_reducible refine at_lit ?_); refine w_new Try.elI (i64s []) rfl rfl rfl (i64s_cells _) rfl (by omega) ?_; intro v31 w11 hx3 o31; replace o31 : OwnI _ w11 v31 [] := o31; have hFb := hide_ (fun q (h : F q) => hP.lt q h); have hsb := hx3.size)
        | ((with_reducible refine at_load ?_); refine w_fload _ rfl rfl rfl (f10.ext hx3) rfl (agg_of (by kernel_rfl)) ?_)
        | ((with_reducible refine at_bi ?_); refine appi _ _ rfl rfl rfl rfl o31 (hu.out.ext (hO.ext.trans hx3)) hbig.out hsb ?_; intro v34 w12 o34 hb34 hg34 hg34'; rw [List.nil_append] at o34; have hx4 := hx3.trans' hb34; replace hP := hP.ext hx4; replace ho := ho.ext hx4; replace f10 := f10.ext hx4; replace hO := hO.extend hx4; clear hg34 hg34' hb34 hx4 hx3 hsb o31)
        | ((with_reducible refine at_load ?_); refine w_fload _ rfl rfl rfl f10 rfl (agg_of (by kernel_rfl)) ?_)
        | fail) <;> (try simp only [Act.put, List.setIfInBounds_toArray, List.set_cons_zero, List.set_cons_succ]))
      go_roundw
      case rel => exact ⟨k + 1, F, X2, by go_num, hlt'.out, hok2.out, hP, ho, hsep3.out, hO⟩
      case measure => have := hlt'.out; simp [RowKit.intOf]; omega

set_option maxRecDepth 100000 in
theorem mempoolRuns_lifted (os : Os) (started : os.Started) (H : Type) (enc : TypeId × Value → H) :
    ReturnsInHanded {} Try.checked os 4 .any (Rows.mempoolRunsSpec.pre6 enc Try.prog Try.f4 Rows.mempoolRunsRow.domain false) (Rows.mempoolRunsSpec.post enc Try.prog Try.f4 false true false false) := by
  refine law_lifted (s := Rows.mempoolRunsSpec) (conds := Rows.mempoolRunsRow.domain) Try.func4 (by kernel_rfl) rfl (fun H ds h => by
      rw [show Try.f4.params.size = 3 from rfl] at h
      match ds, h with
      | [d0, d1, d2], _ => rfl) rfl rfl (by decide +kernel) os started H enc
    (ChangeSpec.witness6 (enc := enc) (C := Try.checked) false ⟨#[], #[.slice none 0 0, .int .i64 0, .slice none 0 0], []⟩ 8 (by kernel_rfl) (by kernel_rfl) (by kernel_rfl) (by kernel_rfl)) ?_
  intro W base args ds p hval hA hsz _
  have hp : Try.f4.params.toList = [31, 3, 32] := rfl
  rw [hp] at hA hsz
  obtain ⟨v0, v1, v2, d0, d1, d2, p0, p1, p2, rfl, rfl, rfl, h0, h1, h2⟩ := trodAll_three hA
  obtain ⟨l0, k0⟩ := arg_Acts9 hsz (j := 0) rfl rfl (hval 0 31 v0 rfl rfl) h0
  obtain ⟨a1, rfl, b1, c1⟩ := arg_int (hval 1 3 v1 rfl rfl) h1
  obtain ⟨l2, a2, b2, c2⟩ := arg_ints hsz (j := 2) rfl rfl (hval 2 32 v2 rfl rfl) h2
  exact mempoolRuns_law v0 l0 a1 v2 l2 W k0 ⟨b1, c1⟩ a2 b2

theorem mempoolRuns_holds : Rows.MempoolRunsSaid :=
  OpenClaim.holds_of_wide 4 Try.f4 rfl rfl rfl rfl rfl rfl rfl ⟨rfl, rfl, rfl, rfl, rfl⟩ rfl rfl rfl rfl rfl (by kernel_rfl) Try.func4 (by kernel_rfl)
    (of_decide_eq_true (by kernel_rfl)) (by unfold Func.isWrapper; first | (rw [if_pos (by decide +kernel)]; kernel_rfl) | (rw [if_neg (by decide +kernel)]; exact ⟨rfl, rfl⟩))
    (fun os started H enc _ => mempoolRuns_lifted os started H enc)
#print axioms mempoolRuns_holds

end Go.Proofs.Ytdacclcaopmalaa
