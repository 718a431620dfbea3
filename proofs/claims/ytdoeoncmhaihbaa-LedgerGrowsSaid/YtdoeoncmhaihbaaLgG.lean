/- Blocks that came to a chain, the program's and the document's. -/
import Derived.Test.YtdoeoncmhaihbaaLgS
import Derived.Test.YtdoeoncmhaihbaaChK
import Derived.Test.YtdoeoncmhaihbaaRegSu
namespace Go.Proofs.Ytdoeoncmhaihbaa
set_option maxRecDepth 100000
open Go.RowKit Go.ChangeShapes Go.WideShapes Go.ChangeAt

/-- Blocks taken one after the other. -/
def grF (ds : List Int) (t : TrS) (l : List BlkD) : TrS := l.foldl (fun t b => tkT ds 200 t b) t
def gr (ds : List Int) (l : List BlkD) : TrS := grF ds ⟨[], []⟩ l
theorem grF_app (ds : List Int) (t : TrS) (a b : List BlkD) : grF ds t (a ++ b) = grF ds (grF ds t a) b := by unfold grF; rw [List.foldl_append]
theorem gr_succ {ds : List Int} {l : List BlkD} {k : Nat} {d : BlkD} (h : l[k]? = some d) : gr ds (l.take (k + 1)) = tkT ds 200 (gr ds (l.take k)) d := by
  unfold gr
  rw [List.take_add_one, h, Option.toList_some, grF_app]; rfl
theorem grF_good (ds : List Int) : ∀ (l : List BlkD) (t : TrS), TrS.Good t → TrS.Good (grF ds t l)
  | [], _, h => h
  | _ :: l, _, h => grF_good ds l _ (tkT_good h)
theorem gr_good (ds : List Int) (l : List BlkD) : TrS.Good (gr ds l) := grF_good ds l _ TrS.Good.nil
section
variable {P : Program} {t : TypeId} {n : Nat} {zs : List Value} {w : World}
theorem ret_tc (E : StN P t n zs) {fn : Func} {s s' g : Nat} {cs : List Value} {tmps : Array Value} {v : Value} (hrs : fn.results = #[.tmp s', .cell s t]) (hp : tmps.getD s undef = .pointer (some ⟨g, 0, none⟩)) (hv : tmps.getD s' undef = v) (h : Fs w g cs) (hl : cs.length = n) :
    (results fn tmps).run P w = .ok (.tuple #[v, .agg cs.toArray]) w := by
  have hr := run_loadVar_aggN E h hl
  rw [Array.getD_eq_getD_getElem?] at hp hv
  simp only [results, hrs]
  simp [hp, hv, asAddr, hr]
end
set_option maxRecDepth 100000 in
set_option maxHeartbeats 1600000 in
theorem CNew2_any {w : World} {v : Value} {ds : List Int} {deep : Int} (h0 : Ints w v ds) (hok : DrOk ds) (hd : I64 deep) :
    Calls Try.prog 9 #[v, .int .i64 deep] w fun e w' => ∃ (q p : Nat) (dv : Value) (H : Nat → Prop), e = .returned (.pointer (some ⟨q, 0, none⟩)) ∧ ChC H w' q p dv ds deep 0 [] [] ∧ Ext w w' ∧ w.heap.size ≤ q ∧ (∀ k, H k → w.heap.size ≤ k) ∧ ∀ k, dv.ownBlock = some k → w.heap.size ≤ k := by
  refine calls_keep ?_
  have hr := hide_ h0
  have hok' := hide_ hok
  have hd' := hide_ hd
  have hl8 := hide_ (show ds.length * 8 ≤ 140737488355328 from by have := hok.1; omega)
  clear h0 hok hd
  go_enter Try.func9, Try.ntmps9
  go_wp2_with ((first
    | (go_at_call 25; refine (New_any (w := w)).mono ?_; rintro e w1 ⟨p, G, rfl, hT0, hX, hG⟩; have hT := hT0.trim; have hTl := hide_ (show ∀ k, (G k ∧ k < w1.heap.size) → k < w1.heap.size from fun k h => And.right h); replace hG := hide_ (show ∀ k, (G k ∧ k < w1.heap.size) → w.heap.size ≤ k from fun k h => hG k (And.left h)); clear hT0)
    | (go_at_call 26; refine (IClone_any (hr.out.ext hX) hl8.out).mono ?_; rintro e w2 ⟨v2, rfl, o2, hx⟩; replace hT := hT.ext hx; have hs1 := hX.size; have hX1 := hide_ hX.size; have hs2 := hx.size; replace hX := hX.trans hx; clear hx)
    | ((with_reducible refine at_sbuild ?_); refine w_sbuild Try.stChain [.pointer (some ⟨p, 0, none⟩), v2, .int .i64 deep, .int .i64 0] rfl rfl rfl (by intro x hx; simp at hx; rcases hx with rfl | rfl | rfl; exact ⟨by decide, rfl⟩; exact ⟨by decide, oneCell_cells (Sl.one' o2.ints)⟩; exact ⟨by decide, rfl⟩) ?_)
    | ((with_reducible refine at_box ?_); refine w_box _ [.pointer (some ⟨p, 0, none⟩), v2, .int .i64 deep, .int .i64 0] rfl rfl rfl rfl ?_; intro q w3 hq hx3 f3)
    | fail) <;> (try simp only [Act.put, List.setIfInBounds_toArray, List.set_cons_zero, List.set_cons_succ]))
  go_ret
  have hd9 : ∀ k, v2.ownBlock = some k → w.heap.size ≤ k := fun k hk => Nat.le_trans hX1.out (own_block_lt (g := k) o2 hk).1
  refine Keep.intro ⟨q, p, v2, _, rfl, ⟨f3, hT.ext hx3, (o2.ext hx3).ints, fun h => ?_, fun k hk => ?_, fun k hk => ?_, hok'.out, hd'.out, by constructor <;> omega⟩, hX.trans hx3, Nat.le_trans hX.size hq, hG.out, hd9⟩
  · have := hTl.out _ h; omega
  · have h1 := own_block_lt (g := k) o2 hk
    have h3 := hx3.size
    exact ⟨fun h => by have := hTl.out k h; omega, by omega, by omega⟩
  · have := hTl.out k hk; have h3 := hx3.size; omega

/-- What is neither the program's chain's nor the place of the document's, nor the result's. -/
def S7 (H : Nat → Prop) (q g8 g7 : Nat) (k : Nat) : Prop := Sx H q g8 k ∧ k ≠ g7
/-- Both chains, and a result's place beside them. -/
structure R7 (W w : World) (H : Nat → Prop) (q p g8 g7 : Nat) (zs : List Value) (dv v0 vk vw : Value) (ds : List Int) (slot slotd : Int) (K V Kd Vd : List BlkD) : Prop where
  rc : RC W w H q p g8 dv v0 vk vw ds 1 slot slotd K V Kd Vd
  k7 : KP (WS w (S7 H q g8 g7)) (S7 H q g8 g7) w vk Kd
  v7 : KP (WS w (S7 H q g8 g7)) (S7 H q g8 g7) w vw Vd
  f7 : Fs w g7 zs
  h7 : W.heap.size ≤ g7
  n7 : Sx H q g8 g7
  d7 : ∀ k, dv.ownBlock = some k → k ≠ g7
section
variable {W w w' : World} {H H' : Nat → Prop} {q p g8 g7 : Nat} {zs : List Value} {dv v0 vk vw vk1 vw1 : Value} {ds : List Int} {slot slotd slot' : Int} {K V Kd Vd K1 V1 : List BlkD}
theorem R7.extend (h : R7 W w H q p g8 g7 zs dv v0 vk vw ds slot slotd K V Kd Vd) (he : Ext w w') : R7 W w' H q p g8 g7 zs dv v0 vk vw ds slot slotd K V Kd Vd :=
  ⟨h.rc.extend he, h.k7.step (he.mod fun _ => False) (fun _ _ hs => ⟨id, hs⟩) fun _ _ hs => ⟨id, hs⟩, h.v7.step (he.mod fun _ => False) (fun _ _ hs => ⟨id, hs⟩) fun _ _ hs => ⟨id, hs⟩, h.f7.ext he, h.h7, h.n7, h.d7⟩
theorem R7.add (h : R7 W w H q p g8 g7 zs dv v0 vk vw ds slot slotd K V Kd Vd) (hU : Upd H H' w w') (hC : ChC H' w' q p dv ds 1 slot K1 V1) : R7 W w' H' q p g8 g7 zs dv v0 vk vw ds slot slotd K1 V1 Kd Vd := by
  have hse : ∀ k, k < w.heap.size → S7 H q g8 g7 k → ¬ H k ∧ S7 H' q g8 g7 k := fun k hk hs => ⟨hs.1.1, sx_upd hU hk hs.1, hs.2⟩
  exact ⟨h.rc.add hU hC, h.k7.step hU.mod hse hse, h.v7.step hU.mod hse hse, h.f7.mod hU.mod h.n7.1, h.h7, sx_upd hU h.f7.lt h.n7, h.d7⟩
theorem R7.next (h : R7 W w H q p g8 g7 zs dv v0 vk vw ds slot slotd K V Kd Vd) (hm : Mod (fun k => k = q) w w') (hC : ChC H w' q p dv ds 1 slot' K V) : R7 W w' H q p g8 g7 zs dv v0 vk vw ds slot' slotd K V Kd Vd := by
  have hse : ∀ k, k < w.heap.size → S7 H q g8 g7 k → ¬ k = q ∧ S7 H q g8 g7 k := fun k _ hs => ⟨hs.1.2.1, hs⟩
  exact ⟨h.rc.next hm hC, h.k7.step hm hse hse, h.v7.step hm hse hse, h.f7.mod hm h.n7.2.1, h.h7, h.n7, h.d7⟩
theorem R7.store (h : R7 W w H q p g8 g7 zs dv v0 vk vw ds slot slotd K V Kd Vd) (k1 : KP (WS w (S7 H q g8 g7)) (S7 H q g8 g7) w vk1 K1) (k2 : KP (WS w (S7 H q g8 g7)) (S7 H q g8 g7) w vw1 V1) (hm : Mod (fun k => k = g8) w w') (f : Fs w' g8 (cRow vk1 vw1 v0 1 slot')) : R7 W w' H q p g8 g7 zs dv v0 vk1 vw1 ds slot slot' K V K1 V1 := by
  have hse : ∀ k, k < w.heap.size → S7 H q g8 g7 k → ¬ k = g8 ∧ S7 H q g8 g7 k := fun k _ hs => ⟨hs.1.2.2, hs⟩
  exact ⟨h.rc.store (k1.later (Ext.refl _) (fun _ _ hs => hs.1) fun _ _ hs => hs.1) (k2.later (Ext.refl _) (fun _ _ hs => hs.1) fun _ _ hs => hs.1) hm f, k1.step hm hse hse, k2.step hm hse hse, h.f7.mod hm h.n7.2.2, h.h7, h.n7, h.d7⟩
theorem R7.got {l : List BlkD} {v : Value} (h : R7 W w H q p g8 g7 zs dv v0 vk vw ds slot slotd K V Kd Vd) (k : KP (WS w (S7 H q g8 g7)) (fun k => S7 H q g8 g7 k ∨ w.heap.size ≤ k) w' v l) (he : Ext w w') : KP (WS w' (S7 H q g8 g7)) (S7 H q g8 g7) w' v l :=
  k.later he (fun _ _ hs => hs) fun _ _ hs => hs.elim id fun e => ⟨h.rc.fresh e, fun e2 => by have := h.f7.lt; omega⟩
theorem R7.old {u : Value} {d : BlkD} (h : R7 W w H q p g8 g7 zs dv v0 vk vw ds slot slotd K V Kd Vd) (hu : Recs 2 TxR W u d.txs) : (WS w (S7 H q g8 g7)).Has u d := by
  obtain ⟨h1, h2⟩ := h.rc.old hu
  refine ⟨h1, ?_⟩
  by_cases ht : d.txs = []
  · exact .inl ht
  · refine .inr fun k hk => ?_
    have h3 := h2.resolve_left ht k hk
    obtain ⟨rows, hs, hl, _⟩ := hu
    have hr : rows ≠ [] := fun e => ht (List.eq_nil_of_length_eq_zero (by rw [← hl, e]; rfl))
    obtain ⟨ad, c, rfl, he, hc⟩ := slS_cells hs hr (by omega)
    have hpos := List.length_pos_iff.2 hr
    have hf := flat_len he
    have h0 := hc 0 _ (List.getElem?_eq_getElem (show 0 < rows.flatten.length by omega))
    rw [Addr.add_zero'] at h0
    have hlt := World.block_lt_of_cell? W _ h0
    cases hk
    have h77 := h.h7
    exact ⟨⟨h3.1, fun e => by omega⟩, h3.2⟩
end

/-- A chain of the program's, and the cells of the document's. -/
structure Gr (W w : World) (v0 : Value) (l0 : List Int) (l : List BlkD) (q p : Nat) (dv vk vw : Value) (H : Nat → Prop) : Prop where
  c : ChC H w q p dv l0 1 200 (gr l0 l).known (gr l0 l).wait
  kk : Recs 5 BlkR w vk (gr l0 l).known
  one : ∀ u ∈ cRow vk vw v0 1 200, u.oneCell' = true
  x : Ext W w
theorem Gr.ext {W w w' : World} {v0 : Value} {l0 : List Int} {l : List BlkD} {q p : Nat} {dv vk vw : Value} {H : Nat → Prop} (h : Gr W w v0 l0 l q p dv vk vw H) (he : Ext w w') : Gr W w' v0 l0 l q p dv vk vw H := ⟨h.c.ext he, h.kk.ext BlkR.stays he, h.one, h.x.trans he⟩

set_option maxRecDepth 100000 in
set_option maxHeartbeats 6400000 in
theorem grownL_any {W : World} {v0 v1 : Value} {l0 : List Int} {l : List BlkD} (h00 : Ints W v0 l0) (hD0 : DrOk l0) (hl0 : Recs 5 BlkL W v1 l) :
    Calls Try.prog 18 #[v0, .int .i64 1, v1] W fun e w' => ∃ (q p : Nat) (dv vk vw : Value) (H : Nat → Prop), e = .returned (.tuple #[.pointer (some ⟨q, 0, none⟩), .agg (cRow vk vw v0 1 200).toArray]) ∧ Gr W w' v0 l0 l q p dv vk vw H := by
  refine calls_keep ?_
  have h0 := hide_ h00
  have hl1 := hide_ hl0
  have hv01 := hide_ (Sl.one' h00)
  have hD := hide_ hD0
  have hmax := hl0.len_le
  unfold maxLen at hmax
  have hbig := hide_ (show (([] : List Int).length + l0.length) * 8 ≤ 140737488355328 from by have := hD0.1; simp; omega)
  have hms := hide_ (show max (0 : Int) 200 = 200 from rfl)
  have hX0 := hide_ (Ext.refl W)
  clear h00 hl0 hD0
  go_enter Try.func18, Try.ntmps18
  go_wp2_with ((first
    | (go_at_call 9; refine (CNew2_any (deep := 1) i8 hD.out ⟨by omega, by omega⟩).mono ?_; rintro e w1 ⟨q, p, dv, H, rfl, hC, hx, hq, hH, hdv⟩; have hO : Out W (CQ H q) w1 := ⟨hX.trans hx, fun k hk => hk.elim (fun e => Nat.le_trans hX.size (hH k e)) (fun e => e ▸ Nat.le_trans hX.size hq)⟩; have hf7l := hide_ f7.lt; have n7H := hide_ (show ¬ H g7 ∧ g7 ≠ q from ⟨fun e => by have h1 := hH _ e; have h2 := f7.lt; omega, fun e => by have h2 := f7.lt; omega⟩); replace f7 := f7.ext hx; have d7 := hide_ (show ∀ k, dv.ownBlock = some k → k ≠ g7 from fun k hk e => by have h1 := hdv k hk; have h2 := hf7l.out; omega); clear hX hx hq hH i8 hdv hf7l)
    | (go_at_call 27; refine (CNext_any (n := 200) hR.rc.c ⟨by omega, by omega⟩).mono ?_; rintro e w7 ⟨rfl, hC2, hm⟩; rw [hms.out] at hC2; replace hR := hR.next hm hC2; clear hC2 hm)
    | (go_at_call 31; refine (refCNext_any (n := 200) (hR.rc.one hv01.out 0)).mono ?_; rintro e w8 ⟨rfl, hx⟩; rw [hms.out]; replace hR := hR.extend hx; clear hx)
    | ((with_reducible refine at_alloc ?_); have _t := hX0; refine w_allocN Try.stDocC rfl rfl ?_; intro g7 w2 hg7 hX f7; clear hX0)
    | ((with_reducible refine at_alloc ?_); refine w_allocN Try.stDocC rfl rfl ?_; intro g9 w2 hg9 hx2 f9)
    | ((with_reducible refine at_lit ?_); refine w_new Try.elI (i64s []) rfl rfl rfl (i64s_cells _) rfl (by omega) ?_; intro v5 w5 hx3 o5; replace o5 : OwnI _ w5 v5 [] := o5; have hs5 := hx3.size)
    | ((with_reducible refine at_bi ?_); refine appi _ _ rfl rfl rfl rfl o5 (h0.out.ext (hX.trans hx3)) hbig.out hs5 ?_; intro v9 w9 o9 hb9 hg9 hg9'; rw [List.nil_append] at o9; have i8 := o9.ints; have hx4 := hx3.trans' hb9; replace f7 := f7.ext hx4; replace hX := hX.trans hx4; clear hb9 hg9 hg9' hx3 hx4 hs5 o5 o9)
    | ((with_reducible refine at_sbuild ?_); refine w_cbuild (v := v0) (d := 1) _ _ rfl rfl rfl rfl h0.out ?_)
    | ((with_reducible refine at_store ?_); have _t := f9; refine w_astoreN Try.stDocC (.tmp 9) _ (us := cRow (.slice none 0 0) (.slice none 0 0) v0 1 0) rfl rfl rfl rfl rfl f9 rfl rfl (crow_one rfl rfl hv01.out) ?_; intro w3 hm3 f8; have hx8 := hm3.after hx2 (fun i hi => by subst hi; exact hg9); have hR : R7 W w3 H q p g9 g7 _ dv v0 _ _ l0 0 0 [] [] [] [] := ⟨RC.start hC hO hg9 hx8 f8, KP.nothing _ _ _, KP.nothing _ _ _, f7.ext hx8, hg7, ⟨n7H.out.1, n7H.out.2, fun e => by have h2 := f7.lt; omega⟩, d7.out⟩; clear hm3 f9 f8 hx2 hg9 hC hO hx8 n7H d7 f7 hg7)
    | ((with_reducible refine at_load ?_); refine w_loadN Try.stDocC (.tmp 9) (cRow (.slice none 0 0) (.slice none 0 0) v0 1 0) rfl rfl rfl hR.rc.f8 rfl self_at ?_)
    | ((with_reducible refine at_store ?_); refine w_astoreN Try.stDocC (.tmp 9) _ (us := cRow (.slice none 0 0) (.slice none 0 0) v0 1 200) rfl rfl rfl rfl rfl hR.rc.f8 rfl rfl (hR.rc.one hv01.out 200) ?_; intro w9 hm3 f9; replace hR := hR.store hR.k7 hR.v7 hm3 f9; clear hm3 f9)
    | ((with_reducible refine at_bi ?_); refine w_rlen Try.enBlk.elS _ rfl rfl rfl (hl1.out.ext BlkL.stays hR.rc.out.ext) ?_)
    | fail) <;> (try simp only [Act.put, List.setIfInBounds_toArray, List.set_cons_zero, List.set_cons_succ]))
  go_loopw [26] (fun i wr => ∃ (k : Nat) (H : Nat → Prop) (K V : List BlkD) (vk vw : Value), i = .int .i64 k ∧ k ≤ l.length ∧ R7 W wr H q p g9 g7 [.slice none 0 0, .slice none 0 0, .slice none 0 0, .int .i64 0, .int .i64 0] dv v0 vk vw l0 200 200 K V K V ∧ TrS.Good ⟨K, V⟩ ∧ gr l0 (l.take k) = ⟨K, V⟩) (fun i _ => l.length - (RowKit.intOf i).toNat)
  case atStart => exact ⟨0, H, [], [], _, _, rfl, Nat.zero_le _, hR, TrS.Good.nil, rfl⟩
  case round =>
    clear hR
    obtain ⟨k, H, K, V, vk, vw, rfl, hk, hR, hgo, hgr⟩ := hrel
    by_cases hge : l.length ≤ k
    · obtain rfl : k = l.length := by omega
      have t2 : decide (l.length < l.length) = false := by simp
      rw [List.take_length] at hgr
      have hgr' := hide_ hgr
      have hone := hide_ (hR.rc.one hv01.out 200)
      have f9 := hide_ hR.rc.f8
      have n79 := hide_ hR.n7.2.2
      have f7 := hR.f7
      have hR1 := hide_ hR
      clear hge hgr hR hgo
      go_wp2
      refine wp_region_st [0, 1, 2] (fun i => [42, 43, 6, 0].getD i 0) (fun i v => v = ([.pointer (some ⟨q, 0, none⟩), .agg (cRow vk vw v0 1 200).toArray, .pointer (some ⟨q, 0, none⟩)] : List Value).getD i undef) g7 3 _ (fun us => us = cRow vk vw v0 1 200) f7 (by kernel_rfl) (by kernel_rfl) (by kernel_rfl) (by decide) (by kernel_rfl) (by simp) (by decide) (by kernel_rfl) ?_ ?_ ?_
      · intro i hi b w' hm hout hdep
        have f9m := f9.out.mod hm (fun e => n79.out e.symm)
        rcases (show i = 0 ∨ i = 1 ∨ i = 2 by simp at hi; omega) with rfl | rfl | rfl
        · refine wpOp_of_list rfl ?_
          refine w_mvH (.tmp 8) rfl (.inl rfl) (hout 8 (by decide)) ?_
          exact ⟨_, rfl, rfl, Ext.refl _⟩
        · refine wpOp_of_list rfl ?_
          refine w_loadN Try.stDocC (.tmp 9) (cRow vk vw v0 1 200) rfl rfl (hout 9 (by decide)) f9m rfl self_at ?_
          exact ⟨_, rfl, rfl, Ext.refl _⟩
        · have e := hdep 0 (by decide) (by kernel_rfl)
          refine wpOp_of_list rfl ?_
          refine w_mvH (.tmp 42) rfl (.inr rfl) e ?_
          exact ⟨_, rfl, rfl, Ext.refl _⟩
      · intro b w' hm hout hf hdep
        have e := hdep 1 (by decide) (by kernel_rfl)
        refine wpOp_of_list rfl ?_
        refine w_astoreN Try.stDocC (.tmp 7) (.tmp 43) (us := cRow vk vw v0 1 200) rfl rfl rfl (hout 7 (by decide)) e hf rfl rfl hone.out ?_
        intro w2 hm2 f2
        exact ⟨_, rfl, hm2, f2, rfl⟩
      intro w9 x hm hv hc
      obtain ⟨cs, f9x, rfl⟩ := hc
      have e0 : x 0 = .pointer (some ⟨q, 0, none⟩) := hv 0 (by decide)
      have e1 : x 1 = .agg (cRow vk vw v0 1 200).toArray := hv 1 (by decide)
      have e2 : x 2 = .pointer (some ⟨q, 0, none⟩) := hv 2 (by decide)
      simp only [List.foldl_cons, List.foldl_nil, e0, e1, e2]
      simp only [List.getD_cons_zero, List.getD_cons_succ, Act.put, List.setIfInBounds_toArray, List.set_cons_zero, List.set_cons_succ]
      have hkk := (hR1.out.k7.step hm (S' := S7 H q g9 g7) (fun k _ hs => ⟨hs.2, hs⟩) fun k _ hs => ⟨hs.2, hs⟩).recs (Ext.refl _)
      have hcc := hR1.out.rc.c.mod hm (fun k hk e => hR1.out.n7.1 (by have e' : k = g7 := e; exact e' ▸ hk)) (fun e => hR1.out.n7.2.1 (by have e' : q = g7 := e; exact e'.symm)) (fun k hk e => hR1.out.d7 k hk e)
      have hxx := hm.after hR1.out.rc.out.ext (fun k e => by have e' : k = g7 := e; rw [e']; exact hR1.out.h7)
      go_wp2
      exact bodyPost_ret (ret_tc Try.stDocC rfl rfl rfl f9x rfl) rfl (Keep.intro ⟨q, p, dv, vk, vw, H, rfl, by rw [hgr'.out]; exact hcc, by rw [hgr'.out]; exact hkk, hone.out, hxx⟩)
    have hlt : k < l.length := by omega
    have t2 : decide (k < l.length) = true := by simpa using hlt
    obtain ⟨d, hd0⟩ : ∃ d, l[k]? = some d := ⟨_, List.getElem?_eq_getElem hlt⟩
    have hd := hide_ hd0
    have hfew := hide_ (blks_at hl1.out hd0).2
    have hraw := hide_ (blks_at hl1.out hd0).1
    have hlt' := hide_ hlt
    have hkb : k < 9223372036854775807 := by omega
    obtain ⟨⟨K2, V2⟩, hT10⟩ : ∃ R, tkT l0 200 ⟨K, V⟩ d = R := ⟨_, rfl⟩
    obtain ⟨LL, hL10⟩ : ∃ R, tkL l0 200 ⟨K, V⟩ d = R := ⟨_, rfl⟩
    obtain ⟨EE, hE10⟩ : ∃ R, tkE l0 200 ⟨K, V⟩ d = R := ⟨_, rfl⟩
    have hgo20 : TrS.Good ⟨K2, V2⟩ := by
      have := tkT_good (ds := l0) (slot := 200) (b := d) hgo
      rw [hT10] at this; exact this
    have hT1 := hide_ hT10
    have hL1 := hide_ hL10
    have hE1 := hide_ hE10
    have hgo2 := hide_ hgo20
    have hst := hide_ (show gr l0 (l.take (k + 1)) = ⟨K2, V2⟩ from by rw [gr_succ hd0, hgr, hT10])
    replace hgo := hide_ hgo
    clear hge hlt hd0 hT10 hL10 hE10 hgo20 hgr
    go_wp2_with ((first
      | (go_at_call 32; refine (BCopy_any (b := d) (hR.old hu.out).1 hfew.out).mono ?_; rintro e w7 ⟨uc, rfl, oc, hx⟩; replace oc := oc.recs; replace f11 := f11.ext hx; replace hR := hR.extend hx; clear hx)
      | (go_at_call 28; refine (CTake_any (b := d) hR.rc.c hgo.out.few oc hraw.out).mono ?_; rintro e w8 ⟨v17, H2, rfl, o17, hC2, hU⟩; rw [hT1.out] at hC2; rw [hE1.out]; replace hC2 : ChC H2 w8 q p dv l0 1 200 K2 V2 := hC2; replace f11 := f11.mod hU.mod n11.out.1; replace hR := hR.add hU hC2; clear hC2 hU oc o17)
      | (go_at_call 33; refine (refCTake_kp (Wr := WS w8 (S7 H2 q g9 g7)) (w := w8) (deep := 1) (slot := 200) (b := d) (u := u) (Ext.refl w8) hR.k7 hR.v7 hgo.out.few (h0.out.ext hR.rc.out.ext) hD.out (hR.old hu.out) hraw.out).mono ?_; rintro e w9 ⟨vk1, vw1, v20, rfl, k1, k2, o20, hx⟩; rw [hT1.out] at k1 k2; rw [hE1.out]; replace k1 := hR.got k1 hx; replace k2 := hR.got k2 hx; replace k1 : KP (WS w9 (S7 H2 q g9 g7)) (S7 H2 q g9 g7) w9 vk1 K2 := k1; replace k2 : KP (WS w9 (S7 H2 q g9 g7)) (S7 H2 q g9 g7) w9 vw1 V2 := k2; replace hR := hR.extend hx; have one19 := hide_ (crow_one (deep := 1) (slot := 200) k1.one k2.one hv01.out); clear hx f11 o20)
      | ((with_reducible refine at_idx ?_); refine w_lidx0 Try.enBlk.elS _ _ k rfl rfl rfl rfl hl1.out hR.rc.out.ext hd.out ?_; intro pa u hrow hu0; have honeb := hide_ (blk_one (a := d.slot) (b := d.miner) (c := d.var) (d := d.parent) hu0.one'); replace hrow := hide_ hrow; have hu := hide_ hu0; clear hu0)
      | ((with_reducible refine at_load ?_); refine w_pload Try.stBlk _ rfl rfl rfl hrow.out rfl ?_)
      | ((with_reducible refine at_alloc ?_); refine w_alloc Try.stBlk rfl rfl ?_; intro g11 w5 hg11 hx2 f11; have n11 := hide_ (hR.rc.fresh hg11))
      | ((with_reducible refine at_store ?_); refine w_astore Try.stBlk (.tmp 11) _ (us := bRow d u) rfl rfl rfl rfl rfl f11 rfl rfl honeb.out ?_; intro w6 hm3 f9; replace hx2 := hm3.after hx2 (fun i hi => by subst hi; exact hg11); replace f11 : Fs w6 g11 (bRow d u) := f9; replace hR := hR.extend hx2; clear hm3 f9 hx2 hg11 honeb hrow)
      | ((with_reducible refine at_store ?_); refine w_astoreN Try.stDocC (.tmp 9) _ (us := cRow vk1 vw1 v0 1 200) rfl rfl rfl rfl rfl hR.rc.f8 rfl rfl one19.out ?_; intro wC hm3 f9; replace hR := hR.store k1 k2 hm3 f9; clear hm3 f9 k1 k2)
      | ((with_reducible refine at_load ?_); refine w_aload Try.stBlk (.tmp 11) rfl rfl rfl f11 rfl ?_)
      | ((with_reducible refine at_load ?_); refine w_loadN Try.stDocC (.tmp 9) (cRow vk vw v0 1 200) rfl rfl rfl hR.rc.f8 rfl self_at ?_)
      | fail) <;> (try simp only [Act.put, List.setIfInBounds_toArray, List.set_cons_zero, List.set_cons_succ]))
    go_roundw
    case rel => exact ⟨k + 1, H2, K2, V2, vk1, vw1, by go_num, hlt'.out, hR, hgo2.out, hst.out⟩
    case measure => have := hlt'.out; simp [RowKit.intOf]; omega
end Go.Proofs.Ytdoeoncmhaihbaa
