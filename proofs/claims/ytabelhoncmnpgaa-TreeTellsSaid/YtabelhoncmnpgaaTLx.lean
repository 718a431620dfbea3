/- The document's tree beside the program's: both grown from the same blocks. -/
import Derived.Test.YtabelhoncmnpgaaTDh
namespace Go.Proofs.Ytabelhoncmnpgaa
set_option maxRecDepth 100000
open Go.RowKit Go.ChangeShapes Go.WideShapes Go.ChangeAt

theorem ret_tc {P : Program} {t : TypeId} {n : Nat} {zs : List Value} {w : World} (E : St P t n zs) {fn : Func} {s s' g : Nat} {cs : List Value} {tmps : Array Value} {v : Value} (hrs : fn.results = #[.tmp s', .cell s t]) (hp : tmps.getD s undef = .pointer (some ⟨g, 0, none⟩)) (hv : tmps.getD s' undef = v) (h : Fs w g cs) (hl : cs.length = n) :
    (results fn tmps).run P w = .ok (.tuple #[v, .agg cs.toArray]) w := by
  have hr := run_loadVar_agg E h hl
  rw [Array.getD_eq_getD_getElem?] at hp hv
  simp only [results, hrs]
  simp [hp, hv, asAddr, hr]
theorem Add_r8 {G : Nat → Prop} {w : World} {p : Nat} {K V K2 V2 : List BlkD} {b : BlkD} {u : Value} {Ln : List Int} {ok : Bool} (hR : TrS.add ⟨K, V⟩ b = (⟨K2, V2⟩, Ln, ok)) (h00 : TrW G w p K V) (hV : V.length ≤ 16) (hu0 : Recs 2 TxR w u b.txs) (hraw : b.Raw) :
    Calls Try.prog 18 #[.pointer (some ⟨p, 0, none⟩), .agg #[.int .i64 b.slot, .int .i64 b.miner, .int .i64 b.var, .int .i64 b.parent, u]] w fun e w' => ∃ (v' : Value) (G' : Nat → Prop), e = .returned (.tuple #[v', .bool ok]) ∧ OwnI w.heap.size w' v' Ln ∧ TrW G' w' p K2 V2 ∧ Upd G G' w w' := by
  have h := Add_any h00 hV hu0 hraw
  rw [hR] at h; exact h
/-- The program's tree, and the document's in g5, in blocks of their own. -/
structure Gn (W w : World) (G : Nat → Prop) (p g3 g5 : Nat) (vk vw : Value) (K V Kd Vd : List BlkD) : Prop where
  tr : TrW G w p K V
  out : Out W G w
  lt : ∀ k, G k → k < w.heap.size
  n3 : ¬ G g3
  n5 : ¬ G g5
  n35 : g3 ≠ g5
  h3 : W.heap.size ≤ g3
  h5 : W.heap.size ≤ g5
  f3 : Fs w g3 zero2
  f5 : Fs w g5 [vk, vw]
  kk : KP W (fun k => ¬ G k ∧ k ≠ g3 ∧ k ≠ g5) w vk Kd
  kv : KP W (fun k => ¬ G k ∧ k ≠ g3 ∧ k ≠ g5) w vw Vd
section
variable {W w w' : World} {G G' : Nat → Prop} {p g3 g5 : Nat} {vk vw vk1 vw1 : Value} {K V Kd Vd K1 V1 : List BlkD}
theorem Gn.extend (h : Gn W w G p g3 g5 vk vw K V Kd Vd) (he : Ext w w') : Gn W w' G p g3 g5 vk vw K V Kd Vd :=
  ⟨h.tr.ext he, h.out.extend he, fun k hk => Nat.lt_of_lt_of_le (h.lt k hk) he.size, h.n3, h.n5, h.n35, h.h3, h.h5, h.f3.ext he, h.f5.ext he, h.kk.ext he, h.kv.ext he⟩
theorem Gn.add (h : Gn W w G p g3 g5 vk vw K V Kd Vd) (hU : Upd G G' w w') (hT : TrW G' w' p K1 V1) : Gn W w' G' p g3 g5 vk vw K1 V1 Kd Vd := by
  have l3 := h.f3.lt; have l5 := h.f5.lt; have hs := hU.size
  have nn : ∀ k, k < w.heap.size → ¬ G k → ¬ G' k := fun k hk hn h' => (hU.sub k h').elim hn fun e => by omega
  have hse : ∀ k, k < w.heap.size → (¬ G k ∧ k ≠ g3 ∧ k ≠ g5) → ¬ G k ∧ (¬ G' k ∧ k ≠ g3 ∧ k ≠ g5) := fun k hk ⟨a, b, c⟩ => ⟨a, nn k hk a, b, c⟩
  exact ⟨hT, h.out.upd hU, fun k hk => (hU.sub k hk).elim (fun e => Nat.lt_of_lt_of_le (h.lt k e) hs) fun e => e.2, nn _ l3 h.n3, nn _ l5 h.n5, h.n35, h.h3, h.h5, h.f3.mod hU.mod h.n3, h.f5.mod hU.mod h.n5, h.kk.swap hU.mod hse, h.kv.swap hU.mod hse⟩
theorem Gn.next {v1 : Value} {l1 : List BlkD} {w0 : World} (h : Gn W w0 G p g3 g5 vk vw K V Kd Vd) (k1 : KP W (fun k => (¬ G k ∧ k ≠ g3 ∧ k ≠ g5) ∨ w0.heap.size ≤ k) w v1 l1) : KP W (fun k => ¬ G k ∧ k ≠ g3 ∧ k ≠ g5) w v1 l1 := by
  have l3 := h.f3.lt; have l5 := h.f5.lt
  exact k1.mono fun k _ hs => hs.elim id fun e => ⟨fun hg => by have := h.lt k hg; omega, by omega, by omega⟩
theorem Gn.store (h : Gn W w G p g3 g5 vk vw K V Kd Vd) (k1 : KP W (fun k => ¬ G k ∧ k ≠ g3 ∧ k ≠ g5) w vk1 K1) (k2 : KP W (fun k => ¬ G k ∧ k ≠ g3 ∧ k ≠ g5) w vw1 V1) (hm : Mod (fun k => k = g5) w w') (f : Fs w' g5 [vk1, vw1]) : Gn W w' G p g3 g5 vk1 vw1 K V K1 V1 :=
  ⟨h.tr.mod hm fun k hk e => h.n5 (e ▸ hk), h.out.other hm fun k hk => by subst hk; exact h.h5, fun k hk => Nat.lt_of_lt_of_le (h.lt k hk) hm.size, h.n3, h.n5, h.n35, h.h3, h.h5, h.f3.mod hm h.n35, f, k1.mod hm fun k _ hs => hs.2.2, k2.mod hm fun k _ hs => hs.2.2⟩
theorem Gn.start {w0 w1 : World} (hX : Ext W w0) (h3 : W.heap.size ≤ g3) (f3 : Fs w0 g3 zero2) (hT : TrW G w1 p K V) (hx : Ext w0 w1) (hG : ∀ k, G k → w0.heap.size ≤ k) (h5 : w1.heap.size ≤ g5) (hx2 : Ext w1 w) (f5 : Fs w g5 zero2) : ∃ G' : Nat → Prop, Gn W w G' p g3 g5 (.slice none 0 0) (.slice none 0 0) K V [] [] := by
  have l3 := f3.lt; have s0 := hX.size; have s1 := hx.size
  have nil : ∀ (S : Nat → Prop), KP W S w (.slice none 0 0) [] := fun S => ⟨[], ⟨none, 0, rfl, Nat.le_refl _, by unfold maxLen; omega, fun k row hk => by simp at hk⟩, ⟨rfl, fun k row d hk => by simp at hk⟩, fun hr => absurd rfl hr⟩
  refine ⟨_, hT.trim.ext hx2, ⟨(hX.trans hx).trans hx2, fun k hk => ?_⟩, fun k hk => Nat.lt_of_lt_of_le hk.2 hx2.size, fun hk => ?_, fun hk => ?_, fun e => ?_, h3, by omega, (f3.ext hx).ext hx2, f5, nil _, nil _⟩
  · have := hG k hk.1; omega
  · have := hG _ hk.1; omega
  · have := hk.2; omega
  · omega
end

set_option maxRecDepth 100000 in
set_option maxHeartbeats 3200000 in
theorem grown_any {W : World} {v0 : Value} {l : List BlkD} (hl00 : Recs 5 BlkL W v0 l) (hlen : l.length ≤ 60) :
    Calls Try.prog 29 #[v0] W fun e w' => ∃ (p : Nat) (G : Nat → Prop) (vk vw : Value), e = .returned (.tuple #[.pointer (some ⟨p, 0, none⟩), .agg #[vk, vw]]) ∧ TrW G w' p (st l l.length).known (st l l.length).wait ∧ Recs 5 BlkR w' vk (st l l.length).known ∧ Recs 5 BlkR w' vw (st l l.length).wait ∧ Ext W w' := by
  refine calls_keep ?_
  have hl0 := hide_ hl00
  have hraws := hide_ (fun k d (h : l[k]? = some d) => blks_at hl00 h)
  clear hl00
  go_enter Try.func29, Try.ntmps29
  have tokA : True := trivial
  go_wp2_with ((first
    | ((with_reducible refine at_alloc ?_); have _t := tokA; refine w_alloc Try.stDoc rfl rfl ?_; intro g3 w1 hg3 hX f3; clear tokA)
    | (go_at_call 10; refine (New_any (w := _)).mono ?_; rintro e w1 ⟨p, G, rfl, hT, hx, hG⟩)
    | ((with_reducible refine at_sbuild ?_); refine w_sbuild Try.stDoc [.slice none 0 0, .slice none 0 0] rfl rfl rfl (by intro p hp; simp at hp) ?_)
    | ((with_reducible refine at_alloc ?_); refine w_alloc Try.stDoc rfl rfl ?_; intro g5 w2 hg5 hx2 f5)
    | ((with_reducible refine at_store ?_); refine w_astore Try.stDoc _ _ (us := zero2) rfl rfl rfl rfl rfl f5 rfl rfl (two_one rfl rfl) ?_; intro w3 hm3 f9; replace hx2 := hm3.after hx2 (fun i hi => by subst hi; exact hg5); obtain ⟨G0, hN⟩ := Gn.start hX hg3 f3 hT hx hG hg5 hx2 f9; clear hX f3 hT hx hG hx2 f9 hm3 f5)
    | ((with_reducible refine at_bi ?_); refine w_rlen Try.enBlk.elS _ rfl rfl rfl (hl0.out.ext BlkL.stays hN.out.ext) ?_)
    | fail) <;> (try simp only [Act.put, List.setIfInBounds_toArray, List.set_cons_zero, List.set_cons_succ]))
  go_loopw [12] (fun i wr => ∃ (k : Nat) (G : Nat → Prop) (vk vw : Value), i = .int .i64 k ∧ k ≤ l.length ∧ Gn W wr G p g3 g5 vk vw (st l k).known (st l k).wait (st l k).known (st l k).wait) (fun i _ => l.length - (RowKit.intOf i).toNat)
  case atStart => exact ⟨0, G0, _, _, rfl, Nat.zero_le _, by rw [st_zero]; exact hN⟩
  case round =>
    clear hN
    obtain ⟨k, G, vk, vw, rfl, hk, hN⟩ := hrel
    by_cases hge : l.length ≤ k
    rotate_left
    · have hlt : k < l.length := by omega
      have t2 : decide (k < l.length) = true := by simpa using hlt
      obtain ⟨d, hd0⟩ : ∃ d, l[k]? = some d := ⟨_, List.getElem?_eq_getElem hlt⟩
      have hraw := hide_ (hraws.out k d hd0)
      have hst0 := st_succ hd0
      have hV16 := hide_ (st_good l k).few
      have hlt' := hide_ hlt
      have hd := hide_ hd0
      obtain ⟨⟨K, V⟩, hKV⟩ : ∃ t, st l k = t := ⟨_, rfl⟩
      rw [hKV] at hN hst0 hV16
      replace hN : Gn W wr G p g3 g5 vk vw K V K V := hN
      obtain ⟨⟨⟨K2, V2⟩, Ln, okv⟩, hR0⟩ : ∃ R, TrS.add ⟨K, V⟩ d = R := ⟨_, rfl⟩
      rw [hR0] at hst0
      have hst := hide_ hst0
      have hR := hide_ hR0
      clear hge hlt hd0 hKV hst0 hR0
      go_wp2_with ((first
        | ((with_reducible refine at_idx ?_); refine w_lidx0 Try.enBlk.elS _ _ k rfl rfl rfl rfl hl0.out hN.out.ext hd.out ?_; intro pa u hrow hu; have hone := blk_one (a := d.slot) (b := d.miner) (c := d.var) (d := d.parent) hu.one'; replace hrow := hide_ hrow; replace hu := hide_ hu)
        | ((with_reducible refine at_load ?_); refine w_pload Try.stBlk _ rfl rfl rfl hrow.out rfl ?_)
        | ((with_reducible refine at_alloc ?_); refine w_alloc Try.stBlk rfl rfl ?_; intro g7 w2 hg7 hx f7; have hn7 := hide_ (show ¬ G g7 from fun h => by have := hN.lt g7 h; omega))
        | ((with_reducible refine at_store ?_); refine w_astore Try.stBlk _ _ (us := bRow d u) rfl rfl rfl rfl rfl f7 rfl rfl hone ?_; intro w3 hm3 f9; replace hx := hm3.after hx (fun i hi => by subst hi; exact hg7); replace f7 : Fs w3 g7 (bRow d u) := f9; replace hN := hN.extend hx; clear hx hm3 f9 hrow hg7 hone)
        | ((with_reducible refine at_load ?_); refine w_aload Try.stBlk _ rfl rfl rfl f7 rfl ?_)
        | ((with_reducible refine at_load ?_); refine w_aload Try.stDoc _ rfl rfl rfl hN.f5 rfl ?_)
        | (go_at_call 17; refine (BCopy_any (b := d) (hu.out.ext TxR.stays hN.out.ext) hraw.out.2).mono ?_; rintro e w5 ⟨uc, rfl, oc, hx⟩; replace oc := oc.recs; replace hN := hN.extend hx; replace f7 := f7.ext hx; clear hx)
        | (go_at_call 18; refine (Add_r8 hR.out hN.tr hV16.out oc hraw.out.1).mono ?_; rintro e wB ⟨v10, G2, rfl, _, hT2, hU⟩; replace hN := hN.add hU hT2; replace f7 := f7.mod hU.mod hn7.out; clear hT2 hU oc hn7)
        | (go_at_call 19; refine (refAdd_kp (b := d) (u := u) hN.out.ext hN.kk hN.kv hV16.out hu.out hraw.out.1 hR.out).mono ?_; rintro e w5 ⟨vk1, vw1, v1, rfl, k1, k2, _, hx⟩; replace k1 := hN.next k1; replace k2 := hN.next k2; replace hN := hN.extend hx; clear hx f7)
        | ((with_reducible refine at_store ?_); refine w_astore Try.stDoc _ _ (us := [vk1, vw1]) rfl rfl rfl rfl rfl hN.f5 rfl rfl (two_one k1.one k2.one) ?_; intro w3 hm3 f9; replace hN := hN.store k1 k2 hm3 f9; clear hm3 f9 k1 k2)
        | fail) <;> (try simp only [Act.put, List.setIfInBounds_toArray, List.set_cons_zero, List.set_cons_succ]))
      go_roundw
      case rel => exact ⟨k + 1, G2, _, _, by go_num, hlt'.out, by rw [hst.out]; exact hN⟩
      case measure => have := hlt'.out; simp [RowKit.intOf]; omega
    obtain rfl : k = l.length := by omega
    have t2 : decide (l.length < l.length) = false := by simp
    clear hge hk
    go_wp2
    refine wp_region_phx (by kernel_rfl) ?_; intro wd hxd; have F5 := hN.f5.ext hxd
    refine Ph.gate 0 3 (by kernel_rfl) ?_
    refine LinL.step (s := (.val (.pointer (some ⟨p, 0, none⟩)))) [(4, none)] rfl (by kernel_rfl) (op_out 4 (.pointer (some ⟨p, 0, none⟩)) rfl (.inl rfl) rfl) ?_
    refine LinL.step (s := (.val (.agg #[vk, vw]))) [(5, none)] rfl (by kernel_rfl) (op_runs rfl fun σ w' hx hg => ⟨_, runs_aload (ρ := σ.eval) (w := w') Try.stDoc (.tmp 5) rfl hg.1 (F5.ext hx) rfl, rfl⟩) ?_
    refine LinL.step (s := (.val (.pointer (some ⟨p, 0, none⟩)))) [(28, some 1)] rfl (by kernel_rfl) (op_copy 28 1 (.val (.pointer (some ⟨p, 0, none⟩))) rfl (.inr rfl) rfl) ?_
    intro wN hxN
    simp only [Fin', List.reverse_cons, List.reverse_nil, List.nil_append, List.cons_append, List.drop_zero, List.take_succ_cons, List.take_zero]
    simp only [Act.put, List.setIfInBounds_toArray, List.set_cons_zero, List.set_cons_succ]
    replace hN := hN.extend (hxd.trans hxN)
    refine wpOp_of_list rfl ?_
    refine w_astore Try.stDoc (us := [vk, vw]) _ _ rfl rfl rfl rfl rfl hN.f3 rfl rfl (two_one hN.kk.one hN.kv.one) ?_; intro w8 hm8 f8
    show Ph Try.prog _ _ 4 _ _
    refine Ph.rest 4 0 (by kernel_rfl) ?_
    intro wN2 hxN2
    simp only [Fin', List.reverse_nil, List.drop_zero, List.drop_succ_cons, List.take_zero]
    have T8 := (hN.tr.mod hm8 (fun k hk e => hN.n3 (e ▸ hk))).ext hxN2
    have X8 : Ext W wN2 := (hm8.after hN.out.ext (fun i hi => by subst hi; exact hN.h3)).trans hxN2
    have k8 := ((hN.kk.mod hm8 fun k _ hs => hs.2.1).ext hxN2).recs X8
    have v8 := ((hN.kv.mod hm8 fun k _ hs => hs.2.1).ext hxN2).recs X8
    replace f8 := f8.ext hxN2
    go_wp2
    exact bodyPost_ret (ret_tc Try.stDoc rfl rfl rfl f8 rfl) rfl (Keep.intro ⟨p, G, vk, vw, rfl, T8, k8, v8, X8⟩)
end Go.Proofs.Ytabelhoncmnpgaa
