/- GateRuns returns true: whatever is said, and is to pass: the program's gate answers as the document's. No condition. -/
import Derived.Test.YtgbhbifdfcfamaaGtK
import Derived.Test.YtgbhbifdfcfamaaGtLa
import Derived.Test.YtgbhbifdfcfamaaGtX
import Derived.Test.YtgbhbifdfcfamaaArgI
import Derived.Deep.Cut
namespace Go.Proofs.Ytgbhbifdfcfamaa
set_option maxRecDepth 100000
open Go.RowKit Go.ChangeShapes Go.WideShapes Go.ChangeAt

theorem RunS.fresh {X F : Nat → Prop} {w w' : World} {p g1 g2 g6 : Nat} {vgb vb vs vk : Value} {g d : GaD} (h : RunS X w p g1 g2 vgb g g6 vb vs vk d) (he : Ext w w') (hF : ∀ k, F k → w.heap.size ≤ k ∧ k < w'.heap.size) : ∃ Y, RunS Y w' p g1 g2 vgb g g6 vb vs vk d ∧ ∀ k, F k → Y k ∧ k ≠ g6 :=
  ⟨_, h.more he, fun k hk => ⟨.inr (hF k hk), fun e => by have h1 := h.f6.lt; have h2 := (hF k hk).1; omega⟩⟩
theorem RunS.Ready.ext {X : Nat → Prop} {w w' : World} {p g1 g2 g6 : Nat} {vgb vb vs vk : Value} {g d : GaD} (h : RunS.Ready X w p g1 g2 vgb g g6 vb vs vk d) (he : Ext w w') : RunS.Ready X w' p g1 g2 vgb g g6 vb vs vk d := ⟨h.1, fun _ hm hf => h.2 _ ((he.mod _).trans hm (fun _ _ e => e)) hf⟩
set_option maxRecDepth 100000 in
set_option maxHeartbeats 3200000 in
theorem gateRuns_law (vb : Value) (bad : List Int) (va : Value) (acts : List GacD) (w : World) (hb0 : Ints w vb bad) (ha0 : Recs 2 GacR w va acts) :
    Calls Try.prog 4 #[vb, va] w fun e w' => e = .returned (.bool true) ∧ Ext w w' := by
  refine calls_keep ?_
  have hX := Ext.refl w
  have hb := hide_ hb0
  have ha := hide_ ha0
  clear hb0 ha0
  go_enter Try.func4, Try.ntmps4
  go_upto_region 3 with (first
    | go_big_skip
    | (go_at_call 9; refine (gateAlive_any _).mono ?_; rintro e w4 ⟨rfl, hx⟩; replace hX := hX.trans hx; (try replace hY := hY.trans hx); (try replace hZ := hZ.trans hx); clear hx)
    | fail)
  by_cases hA : 60 < acts.length
  · have t1 : decide ((60 : Int) < (acts.length : Int)) = true := decide_eq_true (by omega)
    clear hA
    go_wp2_with ((first
      | go_big_skip
      | ((with_reducible refine at_bi ?_); (try refine w_yes _ _ _ rfl rfl rfl ?_); refine w_rlen Try.elGac _ rfl rfl rfl (ha.out.ext GacR.stays hX) ?_)
      | fail) <;> (try simp only [Act.put, List.setIfInBounds_toArray, List.set_cons_zero, List.set_cons_succ]))
    go_ret
    exact Keep.intro ⟨rfl, hX⟩
  have t1 : decide ((60 : Int) < (acts.length : Int)) = false := decide_eq_false (by omega)
  by_cases hB : 20 < bad.length
  · have t0 : decide ((20 : Int) < (bad.length : Int)) = true := decide_eq_true (by omega)
    clear hA hB
    go_wp2_with ((first
      | go_big_skip
      | ((with_reducible refine at_bi ?_); (try refine w_yes _ _ _ rfl rfl rfl ?_); refine w_rlen Try.elGac _ rfl rfl rfl (ha.out.ext GacR.stays hX) ?_)
      | ((with_reducible refine at_bi ?_); (try refine w_yes _ _ _ rfl rfl rfl ?_); refine i_len _ rfl rfl rfl (hb.out.ext hX) ?_)
      | fail) <;> (try simp only [Act.put, List.setIfInBounds_toArray, List.set_cons_zero, List.set_cons_succ]))
    go_ret
    exact Keep.intro ⟨rfl, hX⟩
  have t0 : decide ((20 : Int) < (bad.length : Int)) = false := decide_eq_false (by omega)
  have hbl := hide_ (show bad.length ≤ 20 from by omega)
  have hal := hide_ (show acts.length ≤ 60 from by omega)
  have a6 : True := trivial
  have s6 : True := trivial
  clear hA hB
  go_wp2_with ((first
    | go_big_skip
    | ((with_reducible refine at_bi ?_); (try refine w_yes _ _ _ rfl rfl rfl ?_); refine w_rlen Try.elGac _ rfl rfl rfl (ha.out.ext GacR.stays hX) ?_)
    | ((with_reducible refine at_bi ?_); (try refine w_yes _ _ _ rfl rfl rfl ?_); refine i_len _ rfl rfl rfl (hb.out.ext hX) ?_)
    | (refine w_empt Try.elI rfl rfl ?_; intro ge we hge hx oe; replace oe := hide_ oe; clear hge; (try replace ib := hide_ (ib.out.ext hx)); (try replace hG0 := hide_ (hG0.out.ext hx)); replace hX := hX.trans hx; (try replace hY := hY.trans hx); (try replace hZ := hZ.trans hx); clear hx)
    | (refine w_appE Try.elI _ _ rfl rfl rfl rfl oe.out (ys := i64s bad) (hb.out.ext hX) (i64s_one _) (by rw [i64s_length]; have := hbl.out; omega) ?_; intro vi wf hx on; have ib := hide_ (show Ints wf vi bad from Sl.of_own on); clear on oe; (try replace ib := hide_ (ib.out.ext hx)); (try replace hG0 := hide_ (hG0.out.ext hx)); replace hX := hX.trans hx; (try replace hY := hY.trans hx); (try replace hZ := hZ.trans hx); clear hx)
    | (go_at_call 8; refine (GNew_any ib.out (by have := hbl.out; omega)).mono ?_; rintro e w2 ⟨p, rfl, g1, g2, vgb, G0, hG00, hx, hnew⟩; have hG0 := hide_ hG00; have hGl := hide_ (fun k (hk : G0 k) => (hnew k hk).2); have hgW := hide_ (show ∀ k, gm g1 g2 k → w.heap.size ≤ k from fun k hk => Nat.le_trans hX.size (hnew k (hk.elim (fun e => e ▸ hG00.inG.2.1) fun e => e ▸ hG00.inG.2.2.1)).1); clear hG00 hnew ib; replace hX := hX.trans hx; (try replace hY := hY.trans hx); (try replace hZ := hZ.trans hx); clear hx)
    | ((with_reducible refine at_sbuild ?_); refine w_sbuild (o := ⟨some 30, _, _, _, _, _⟩) Try.stRG [vb, .slice none 0 0, .slice none 0 0] rfl rfl rfl ?_ ?_; focus (intro y hy; simp at hy; rcases hy with rfl; exact ⟨by decide, oneCell_cells hb.out.one'⟩))
    | ((with_reducible refine at_alloc ?_); have _t := a6; refine w_alloc Try.stRG rfl rfl ?_; intro g6 w23 hg6 hxa f6; clear a6 _t)
    | ((with_reducible refine at_store ?_); have _t := s6; refine w_astore Try.stRG _ _ (us := [vb, .slice none 0 0, .slice none 0 0]) rfl rfl rfl rfl rfl f6 rfl rfl (by intro y hy; simp at hy; rcases hy with rfl | rfl; exact hb.out.one'; rfl) ?_; intro w24 hm24 f25; have hx := hm24.after hxa (fun i e => e ▸ hg6); have hn6 := hide_ (Nat.le_trans hX.size hg6); have hL := hide_ (RunS.start (g6 := g6) (hG0.out.ext hx) (fun k hk => ⟨Nat.lt_of_lt_of_le (hGl.out k hk) hx.size, fun e => by have := hGl.out k hk; omega⟩) f25 (hb.out.ext (hX.trans hx))); clear s6 _t hm24 hxa hg6 f6 f25; replace hX := hX.trans hx; clear hx)
    | fail) <;> (try simp only [Act.put, List.setIfInBounds_toArray, List.set_cons_zero, List.set_cons_succ]))
  clear hG0 hGl t1 t0
  go_loopw [33] (fun i wr => ∃ (k : Nat) (g : GaD) (vs vk : Value), i = .int .i64 k ∧ k ≤ acts.length ∧ Hid (RunS (fun k => k = g6) wr p g1 g2 vgb g g6 vb vs vk g) ∧ Hid (g.bad = bad ∧ g.said.length ≤ k ∧ g.kn.length ≤ k) ∧ Ext w wr) (fun i _ => acts.length - (RowKit.intOf i).toNat)
  case atStart => exact ⟨0, _, _, _, rfl, Nat.zero_le _, hL, hide_ ⟨rfl, Nat.le_refl _, Nat.le_refl _⟩, hX⟩
  case round =>
  clear hX hL
  obtain ⟨k, g, vs, vk, rfl, hk, hL, hI, hX⟩ := hrel
  by_cases hge : acts.length ≤ k
  · obtain rfl : k = acts.length := by omega
    have t2 : decide (acts.length < acts.length) = false := by simp
    clear hge
    go_wp2
    have L9 := hide_ hL.out
    have hX9 := hide_ hX
    clear hL hX
    go_loopw [14] (fun i wr2 => ∃ n : Nat, i = .int .i64 ((n : Int) - 1) ∧ n ≤ 10 ∧ Hid (RunS (fun k => k = g6) wr2 p g1 g2 vgb g g6 vb vs vk g) ∧ Ext w wr2) (fun i _ => 10 - ((RowKit.intOf i) + 1).toNat)
    case atStart => exact ⟨0, rfl, by omega, L9, hX9.out⟩
    case round =>
    clear L9 hX9
    obtain ⟨n, rfl, hn, hL, hX⟩ := hrel
    by_cases h10 : n = 10
    · have t8 : decide ((n : Int) - 1 < 9) = false := by simp; omega
      subst h10
      go_wp2
      go_ret
      exact Keep.intro ⟨rfl, hX⟩
    have t8 : decide ((n : Int) - 1 < 9) = true := by simp; omega
    have hn9 : n ≤ 9 := by omega
    clear h10 hn
    go_upto_region 28 with (first | go_big_skip | fail)
    refine wp_region_phx (by kernel_rfl) ?_; intro wd hxd; have F6 := hL.out.f6.ext hxd
    refine Ph.rest 0 7 (by kernel_rfl) ?_
    refine LinL.step (s := (.val (.pointer (some ⟨p, 0, none⟩)))) [(5, none)] rfl (by kernel_rfl) (op_out 5 (.pointer (some ⟨p, 0, none⟩)) rfl (.inl rfl) rfl) ?_
    refine LinL.step (s := (.val (.int .i64 ((n : Int) - 1)))) [(14, none)] rfl (by kernel_rfl) (op_out 14 (.int .i64 ((n : Int) - 1)) rfl (.inl rfl) rfl) ?_
    refine LinL.step (s := (.val (.bool (decide (((n : Int) - 1) ∈ g.bad))))) [(82, some 1), (83, some 0)] rfl (by kernel_rfl) (op_calls 11 #[(.tmp 82), (.tmp 83)] #[22, 3] (fun σ => #[.pointer (some ⟨p, 0, none⟩), .int .i64 ((n : Int) - 1)]) rfl rfl (fun _ _ => rfl) fun σ w' hx hg => ⟨by have h82 : σ.tmps.getD 82 undef = .pointer (some ⟨p, 0, none⟩) := hg.1; have h83 : σ.tmps.getD 83 undef = .int .i64 ((n : Int) - 1) := hg.2.1; simp only [List.map_toArray, List.map_cons, List.map_nil, Act.eval, h82, h83], RunS.badR (hL.out.ext (hxd.trans hx)) rfl⟩) ?_
    refine LinL.step (s := (.val (.agg #[vb, vs, vk]))) [(6, none)] rfl (by kernel_rfl) (op_runs rfl fun σ w' hx hg => ⟨_, runs_aload (ρ := σ.eval) (w := w') Try.stRG (.tmp 6) rfl hg.1 (F6.ext hx) rfl, rfl⟩) ?_
    refine LinL.step (s := (.val (.int .i64 ((n : Int) - 1)))) [(14, none)] rfl (by kernel_rfl) (op_out 14 (.int .i64 ((n : Int) - 1)) rfl (.inl rfl) rfl) ?_
    refine LinL.step (s := (.val (.bool (decide (((n : Int) - 1) ∈ g.bad))))) [(85, some 1), (86, some 0)] rfl (by kernel_rfl) (op_calls 15 #[(.tmp 85), (.tmp 86)] #[32, 3] (fun σ => #[.agg #[vb, vs, vk], .int .i64 ((n : Int) - 1)]) rfl rfl (fun _ _ => rfl) fun σ w' hx hg => ⟨by have h85 : σ.tmps.getD 85 undef = .agg #[vb, vs, vk] := hg.1; have h86 : σ.tmps.getD 86 undef = .int .i64 ((n : Int) - 1) := hg.2.1; simp only [List.map_toArray, List.map_cons, List.map_nil, Act.eval, h85, h86], RunS.isR (hL.out.ext (hxd.trans hx)) rfl⟩) ?_
    refine LinL.step (s := (.val (.bool false))) [(84, some 3), (87, some 0)] rfl (by kernel_rfl) (op_runs rfl fun σ w' hx hg => ⟨(.bool false), by have h84 : σ.tmps.getD 84 undef = .bool (decide (((n : Int) - 1) ∈ g.bad)) := hg.1; have h87 : σ.tmps.getD 87 undef = .bool (decide (((n : Int) - 1) ∈ g.bad)) := hg.2.1; unfold Runs execOp; simp [Act.eval, h84, h87, go_sem], rfl⟩) ?_
    intro wN hxN
    simp only [Fin', List.reverse_cons, List.reverse_nil, List.nil_append, List.cons_append, List.drop_zero, List.take_succ_cons, List.take_zero]
    simp only [Act.put, List.setIfInBounds_toArray, List.set_cons_zero, List.set_cons_succ]
    have hx := hxd.trans hxN
    replace hL := hide_ (hL.out.ext hx); replace hX := hX.trans hx; clear hx hxd hxN F6
    go_wp2
    go_roundw
    case rel => exact ⟨n + 1, by go_num, by omega, hL, hX⟩
    case measure => simp [RowKit.intOf]; omega
  have hlt : k < acts.length := by omega
  have t2 : decide (k < acts.length) = true := by simpa using hlt
  obtain ⟨d, hd0⟩ : ∃ d, acts[k]? = some d := ⟨_, List.getElem?_eq_getElem hlt⟩
  have hd := hide_ hd0
  have hlt' := hide_ hlt
  have hkb : k ≤ 60 := by have := hal.out; omega
  have hfew := hide_ (show g.said.length ≤ 1000 ∧ g.kn.length ≤ 1000 from ⟨by have := hI.out.2.1; omega, by have := hI.out.2.2; omega⟩)
  have hdO : d.Ok := recs_okG ha.out (fun _ _ _ h => h.2) d (List.mem_of_getElem? hd0)
  have c1 : True := trivial
  have d1 : True := trivial
  have l6 : True := trivial
  clear hge hlt hd0
  by_cases hk0 : d.k = 0
  · have t3 : (d.k == 0) = true := by simpa using hk0
    have hI2 := hide_ (show (g.say d.b).bad = bad ∧ (g.say d.b).said.length ≤ k + 1 ∧ (g.say d.b).kn.length ≤ k + 1 from ⟨GaD.say_bad.1.trans hI.out.1, by rw [GaD.say_bad.2.1]; have := hI.out.2.1; simp; omega, by have := (GaD.say_bad (g := g) (x := d.b)).2.2; have := hI.out.2.2; omega⟩)
    clear hk0
    go_wp2_with ((first
      | go_big_skip
      | ((with_reducible refine at_idx ?_); refine w_gacidx Try.elGac _ _ k rfl rfl rfl rfl ha.out hX hd.out ?_; intro pa ud hrow0 hby0 hok0; have hrow := hide_ hrow0; have hby := hide_ hby0; have hok := hide_ hok0; have hud := hide_ hby0.one'; clear hrow0 hby0 hok0)
      | ((with_reducible refine at_load ?_); refine w_pload Try.stGac _ rfl rfl rfl hrow.out rfl ?_; clear hrow)
      | ((with_reducible refine at_alloc ?_); refine w_alloc Try.stGac rfl rfl ?_; intro g8 w23 hg8 hxa f8)
      | ((with_reducible refine at_store ?_); refine w_astore Try.stGac _ _ (us := [.int .i64 d.k, ud]) rfl rfl rfl rfl rfl f8 rfl rfl (by intro y hy; simp at hy; rcases hy with rfl | rfl; rfl; exact hud.out) ?_; intro w24 hm24 f25; have hx := hm24.after hxa (fun i e => e ▸ hg8); have n86 := hide_ (show ¬ g8 = g6 from fun e => by have := hL.out.f6.lt; omega); clear hm24 hxa hg8 f8; (try replace hL := hide_ (hL.out.ext hx)); (try replace f8 := hide_ (f8.out.ext hx)); (try replace r9 := hide_ (r9.out.ext hx)); have f8 := hide_ f25; clear f25; replace hX := hX.trans hx; clear hx)
      | ((with_reducible refine at_field ?_); (try refine w_yes _ _ _ rfl rfl rfl ?_); refine w_field Try.stGac _ _ _ rfl rfl rfl (by omega) ?_)
      | ((with_reducible refine at_load ?_); (try refine w_yes _ _ _ rfl rfl rfl ?_); refine w_fload _ rfl rfl rfl f8.out rfl (agg_of (by kernel_rfl)) ?_)
      | (have _t := c1; (try refine w_yes _ _ _ rfl rfl rfl ?_); refine w_empt Try.elB rfl rfl ?_; intro ge we hge hx oe; replace oe := hide_ oe; have hgE := hide_ (And.intro hge hx.size); have hxe := hide_ hx; clear c1 _t hge; (try replace f8 := hide_ (f8.out.ext hx)); have hWE := hide_ hX.size; replace hX := hX.trans hx; clear hx)
      | (have _t := d1; (try refine w_yes _ _ _ rfl rfl rfl ?_); refine w_appE Try.elB _ _ rfl rfl rfl rfl oe.out (ys := u8s d.b) (hby.out.ext hX) (u8s_one _) (by rw [u8s_length]; have := hok.out.b.2; omega) ?_; intro v9 wf hx on; have r9 := hide_ (show Row (fun k => v9.ownBlock = some k) wf 5 v9 (u8s d.b) from ⟨own_mono on (Nat.zero_le _), fun _ h => h⟩); obtain ⟨X, hL9, hXF⟩ := hL.out.fresh (hxe.out.trans hx) (F := fun k => v9.ownBlock = some k) (fun k hk => by have h1 := own_block_lt on hk; exact ⟨Nat.le_trans hgE.out.1 h1.1, h1.2⟩); have hF := hide_ hXF; replace hL := hide_ hL9; have hown := hide_ (fun k hk => Nat.le_trans hWE.out (Nat.le_trans hgE.out.1 (own_block_lt (g := k) on hk).1)); clear d1 _t on oe hgE hxe hL9 hXF hWE; replace f8 := hide_ (f8.out.ext hx); replace hX := hX.trans hx; clear hx)
      | (go_at_call 12; refine (RunS.say hL.out hok.out.b.1 (Nat.le_trans hok.out.b.2 (by omega)) r9.out.sl hfew.out).mono ?_; rintro e w80 ⟨rfl, hL', hN⟩; have hM := hL.out.maps; replace f8 := hide_ (f8.out.mapmod hN hM); replace r9 := hide_ (rowU_mapmod r9.out hN hM); replace hX := hN.after hX hgW.out; replace hL := hide_ hL'; clear hL' hN hM)
      | ((with_reducible refine at_load ?_); have _t := l6; refine w_aload Try.stRG (cs := [vb, vs, vk]) _ rfl rfl rfl hL.out.f6 rfl ?_; clear l6 _t)
      | (go_at_call 13; refine (RunS.docSay hL.out hok.out.b.1 hok.out.b.2 (hby.out.ext hX) hfew.out).mono ?_; rintro e w81 ⟨vs2, vk2, rfl, hR0, hx⟩; have hR := hide_ hR0; clear hR0; (try replace hL := hide_ (hL.out.ext hx)); (try replace f8 := hide_ (f8.out.ext hx)); (try replace r9 := hide_ (r9.out.ext hx)); replace hX := hX.trans hx; clear hx)
      | ((with_reducible refine at_store ?_); refine w_astore Try.stRG _ _ (us := [vb, vs2, vk2]) rfl rfl rfl rfl rfl hL.out.f6 rfl rfl hR.out.1 ?_; intro w82 hm82 f82; replace f8 := hide_ (f8.out.mod hm82 n86.out); replace r9 := hide_ (r9.out.mod hm82 (fun k hk e => (hF.out k hk).2 e)); replace hL := hide_ (hR.out.2 _ hm82 f82); replace hX := hm82.after hX (fun i e => e ▸ hn6.out); clear hm82 f82 hR)
      | ((with_reducible refine at_bi ?_); (try refine w_yes _ _ _ rfl rfl rfl ?_); refine b_len _ rfl rfl rfl r9.out.sl ?_)
      | fail) <;> (try simp only [Act.put, List.setIfInBounds_toArray, List.set_cons_zero, List.set_cons_succ]))
    have L9 := hide_ hL.out
    have hX9 := hide_ hX
    obtain ⟨zs0, hz0⟩ : ∃ zs : List Int, zs.map (Value.int .u8) = u8s d.b := ⟨d.b.map fun n : Nat => (n : Int), by simp [u8s]⟩
    have hzl0 : zs0.length = d.b.length := by have := congrArg List.length hz0; simpa [u8s] using this
    rw [← hz0] at r9
    have hnd : d.b.length ≤ 140737488355328 := Nat.le_trans hok.out.b.2 (by omega)
    have hwN := hide_ hL.out.f6.lt
    clear hL hX f8
    go_loopw [67] (fun i wr2 => ∃ (j : Nat) (zs : List Int), i = .int .i64 j ∧ j ≤ d.b.length ∧ Hid (Row (fun k => v9.ownBlock = some k) wr2 5 v9 (zs.map (Value.int .u8))) ∧ zs.length = d.b.length ∧ Hid (Mod (fun k => v9.ownBlock = some k) w82 wr2 ∧ CMod noByte w82 wr2)) (fun i _ => d.b.length - (RowKit.intOf i).toNat)
    case atStart => exact ⟨0, _, rfl, Nat.zero_le _, r9, hzl0, hide_ ⟨Mod.refl _ _, CMod.refl⟩⟩
    case round =>
      clear r9 hz0 hzl0
      obtain ⟨j, zs, rfl, hj, oz, hzl, hmo⟩ := hrel
      by_cases hge2 : d.b.length ≤ j
      · obtain rfl : j = d.b.length := by omega
        have t8 : decide (d.b.length < d.b.length) = false := by simp
        have hL := L9.out.own hmo.out.1 hmo.out.2 hF.out
        have hX := hmo.out.1.after hX9.out (fun k hk => hown.out k hk)
        clear hge2
        go_wp2
        go_roundw
        case rel => exact ⟨k + 1, g.say d.b, _, _, by go_num, hlt'.out, hide_ (hL.less (fun k e => e ▸ hL.x6) rfl), hI2, hX⟩
        case measure => have := hlt'.out; simp [RowKit.intOf]; omega
      · have hjl : j < d.b.length := by omega
        have hjz : j < zs.length := by omega
        have t8 : decide (j < d.b.length) = true := by simpa using hjl
        clear hge2
        go_wp2_with ((first
          | (refine w_idx Try.elB (o := ⟨some 72, _, _, _, _, _⟩) (.tmp 70) (.tmp 71) j rfl rfl rfl oz.out.sl rfl (by simpa using hjz) ?_; intro ad had; simp only [List.getElem_map] at had)
          | (refine w_oidx Try.elB (o := ⟨some 75, _, _, _, _, _⟩) (.tmp 70) (.tmp 71) rfl rfl rfl oz.out.own rfl (by simpa using hjz) ?_; intro g hg hgB hgl)
          | (refine w_rstoreK Try.elB (.tmp 75) (.tmp 74) (b := zs[j]) rfl rfl rfl rfl rfl rfl oz.out hg (by simpa using hjz) (by simp) ?_; intro w9 hm9 hc9 r9)
          | fail) <;> (try simp only [Act.put, List.setIfInBounds_toArray, List.set_cons_zero, List.set_cons_succ]))
        go_roundw
        case rel => exact ⟨j + 1, zs.set j _, by go_num, by omega, hide_ (by rw [List.map_set]; exact r9), by simpa using hzl, hide_ ⟨hmo.out.1.trans hm9 (fun _ _ h => h), hmo.out.2.trans hc9⟩⟩
        case measure => simp [RowKit.intOf]; omega
  have t3 : (d.k == 0) = false := by simpa using hk0
  obtain ⟨⟨gn, q⟩, hps0⟩ : ∃ r, g.pass d.b = r := ⟨_, rfl⟩
  have hP2 := GaD.pass_bad (g := g) (x := d.b)
  rw [hps0] at hP2
  have hI2 := hide_ (show gn.bad = bad ∧ gn.said.length ≤ k + 1 ∧ gn.kn.length ≤ k + 1 from ⟨hP2.1.trans hI.out.1, by rw [show gn.said = g.said from hP2.2.1]; have := hI.out.2.1; omega, by have h1 : gn.kn.length ≤ g.kn.length + 1 := hP2.2.2; have := hI.out.2.2; omega⟩)
  have hps := hide_ hps0
  clear hk0 hP2 hps0
  cases q
  all_goals
    go_wp2_with ((first
      | go_big_skip
      | ((with_reducible refine at_idx ?_); refine w_gacidx Try.elGac _ _ k rfl rfl rfl rfl ha.out hX hd.out ?_; intro pa ud hrow0 hby0 hok0; have hrow := hide_ hrow0; have hby := hide_ hby0; have hok := hide_ hok0; have hud := hide_ hby0.one'; clear hrow0 hby0 hok0)
      | ((with_reducible refine at_load ?_); refine w_pload Try.stGac _ rfl rfl rfl hrow.out rfl ?_; clear hrow)
      | ((with_reducible refine at_alloc ?_); refine w_alloc Try.stGac rfl rfl ?_; intro g8 w23 hg8 hxa f8)
      | ((with_reducible refine at_store ?_); refine w_astore Try.stGac _ _ (us := [.int .i64 d.k, ud]) rfl rfl rfl rfl rfl f8 rfl rfl (by intro y hy; simp at hy; rcases hy with rfl | rfl; rfl; exact hud.out) ?_; intro w24 hm24 f25; have hx := hm24.after hxa (fun i e => e ▸ hg8); have n86 := hide_ (show ¬ g8 = g6 from fun e => by have := hL.out.f6.lt; omega); clear hm24 hxa hg8 f8; (try replace hL := hide_ (hL.out.ext hx)); (try replace f8 := hide_ (f8.out.ext hx)); (try replace r9 := hide_ (r9.out.ext hx)); have f8 := hide_ f25; clear f25; replace hX := hX.trans hx; clear hx)
      | ((with_reducible refine at_field ?_); (try refine w_yes _ _ _ rfl rfl rfl ?_); refine w_field Try.stGac _ _ _ rfl rfl rfl (by omega) ?_)
      | ((with_reducible refine at_load ?_); (try refine w_yes _ _ _ rfl rfl rfl ?_); refine w_fload _ rfl rfl rfl f8.out rfl (agg_of (by kernel_rfl)) ?_)
      | (have _t := c1; (try refine w_yes _ _ _ rfl rfl rfl ?_); refine w_empt Try.elB rfl rfl ?_; intro ge we hge hx oe; replace oe := hide_ oe; have hgE := hide_ (And.intro hge hx.size); have hxe := hide_ hx; clear c1 _t hge; (try replace f8 := hide_ (f8.out.ext hx)); have hWE := hide_ hX.size; replace hX := hX.trans hx; clear hx)
      | (have _t := d1; (try refine w_yes _ _ _ rfl rfl rfl ?_); refine w_appE Try.elB _ _ rfl rfl rfl rfl oe.out (ys := u8s d.b) (hby.out.ext hX) (u8s_one _) (by rw [u8s_length]; have := hok.out.b.2; omega) ?_; intro v9 wf hx on; have r9 := hide_ (show Row (fun k => v9.ownBlock = some k) wf 5 v9 (u8s d.b) from ⟨own_mono on (Nat.zero_le _), fun _ h => h⟩); obtain ⟨X, hL9, hXF⟩ := hL.out.fresh (hxe.out.trans hx) (F := fun k => v9.ownBlock = some k) (fun k hk => by have h1 := own_block_lt on hk; exact ⟨Nat.le_trans hgE.out.1 h1.1, h1.2⟩); have hF := hide_ hXF; replace hL := hide_ hL9; have hown := hide_ (fun k hk => Nat.le_trans hWE.out (Nat.le_trans hgE.out.1 (own_block_lt (g := k) on hk).1)); clear d1 _t on oe hgE hxe hL9 hXF hWE; replace f8 := hide_ (f8.out.ext hx); replace hX := hX.trans hx; clear hx)
      | (go_at_call 10; refine (RunS.pass hL.out hok.out.b.1 (Nat.le_trans hok.out.b.2 (by omega)) r9.out.sl hfew.out hps.out).mono ?_; rintro e w80 ⟨rfl, hL', hN⟩; have hM := hL.out.maps; replace f8 := hide_ (f8.out.mapmod hN hM); replace r9 := hide_ (rowU_mapmod r9.out hN hM); replace hX := hN.after hX hgW.out; replace hL := hide_ hL'; clear hL' hN hM)
      | ((with_reducible refine at_load ?_); have _t := l6; refine w_aload Try.stRG (cs := [vb, vs, vk]) _ rfl rfl rfl hL.out.f6 rfl ?_; clear l6 _t)
      | (go_at_call 14; refine (RunS.docPass hL.out hok.out.b.1 hok.out.b.2 (hby.out.ext hX) hfew.out hps.out).mono ?_; rintro e w81 ⟨vk2, rfl, hR0, hx⟩; have hR := hide_ hR0; clear hR0; (try replace hL := hide_ (hL.out.ext hx)); (try replace f8 := hide_ (f8.out.ext hx)); (try replace r9 := hide_ (r9.out.ext hx)); replace hX := hX.trans hx; clear hx)
      | ((with_reducible refine at_alloc ?_); refine w_alloc Try.stRG rfl rfl ?_; intro g11 w83 hg11 hxa f11)
      | ((with_reducible refine at_store ?_); refine w_astore Try.stRG _ _ (us := [vb, vs, vk2]) rfl rfl rfl rfl rfl f11 rfl rfl hR.out.1 ?_; intro w84 hm84 f85; have hx := hm84.after hxa (fun i e => e ▸ hg11); replace hR := hide_ (hR.out.ext hx); replace f11 := f85; clear hm84 hxa hg11 f85; (try replace hL := hide_ (hL.out.ext hx)); (try replace f8 := hide_ (f8.out.ext hx)); (try replace r9 := hide_ (r9.out.ext hx)); replace hX := hX.trans hx; clear hx)
      | ((with_reducible refine at_load ?_); refine w_aload Try.stRG (cs := [vb, vs, vk2]) _ rfl rfl rfl f11 rfl ?_; clear f11)
      | ((with_reducible refine at_store ?_); refine w_astore Try.stRG _ _ (us := [vb, vs, vk2]) rfl rfl rfl rfl rfl hL.out.f6 rfl rfl hR.out.1 ?_; intro w82 hm82 f82; replace f8 := hide_ (f8.out.mod hm82 n86.out); replace r9 := hide_ (r9.out.mod hm82 (fun k hk e => (hF.out k hk).2 e)); replace hL := hide_ (hR.out.2 _ hm82 f82); replace hX := hm82.after hX (fun i e => e ▸ hn6.out); clear hm82 f82 hR)
      | ((with_reducible refine at_bi ?_); (try refine w_yes _ _ _ rfl rfl rfl ?_); refine b_len _ rfl rfl rfl r9.out.sl ?_)
      | fail) <;> (try simp only [Act.put, List.setIfInBounds_toArray, List.set_cons_zero, List.set_cons_succ]))
    have L9 := hide_ hL.out
    have hX9 := hide_ hX
    obtain ⟨zs0, hz0⟩ : ∃ zs : List Int, zs.map (Value.int .u8) = u8s d.b := ⟨d.b.map fun n : Nat => (n : Int), by simp [u8s]⟩
    have hzl0 : zs0.length = d.b.length := by have := congrArg List.length hz0; simpa [u8s] using this
    rw [← hz0] at r9
    have hnd : d.b.length ≤ 140737488355328 := Nat.le_trans hok.out.b.2 (by omega)
    have hwN := hide_ hL.out.f6.lt
    clear hL hX f8
    go_loopw [67] (fun i wr2 => ∃ (j : Nat) (zs : List Int), i = .int .i64 j ∧ j ≤ d.b.length ∧ Hid (Row (fun k => v9.ownBlock = some k) wr2 5 v9 (zs.map (Value.int .u8))) ∧ zs.length = d.b.length ∧ Hid (Mod (fun k => v9.ownBlock = some k) w82 wr2 ∧ CMod noByte w82 wr2)) (fun i _ => d.b.length - (RowKit.intOf i).toNat)
    case atStart => exact ⟨0, _, rfl, Nat.zero_le _, r9, hzl0, hide_ ⟨Mod.refl _ _, CMod.refl⟩⟩
    case round =>
      clear r9 hz0 hzl0
      obtain ⟨j, zs, rfl, hj, oz, hzl, hmo⟩ := hrel
      by_cases hge2 : d.b.length ≤ j
      · obtain rfl : j = d.b.length := by omega
        have t8 : decide (d.b.length < d.b.length) = false := by simp
        have hL := L9.out.own hmo.out.1 hmo.out.2 hF.out
        have hX := hmo.out.1.after hX9.out (fun k hk => hown.out k hk)
        clear hge2
        go_wp2
        go_roundw
        case rel => exact ⟨k + 1, gn, _, _, by go_num, hlt'.out, hide_ (hL.less (fun k e => e ▸ hL.x6) rfl), hI2, hX⟩
        case measure => have := hlt'.out; simp [RowKit.intOf]; omega
      · have hjl : j < d.b.length := by omega
        have hjz : j < zs.length := by omega
        have t8 : decide (j < d.b.length) = true := by simpa using hjl
        clear hge2
        go_wp2_with ((first
          | (refine w_idx Try.elB (o := ⟨some 72, _, _, _, _, _⟩) (.tmp 70) (.tmp 71) j rfl rfl rfl oz.out.sl rfl (by simpa using hjz) ?_; intro ad had; simp only [List.getElem_map] at had)
          | (refine w_oidx Try.elB (o := ⟨some 75, _, _, _, _, _⟩) (.tmp 70) (.tmp 71) rfl rfl rfl oz.out.own rfl (by simpa using hjz) ?_; intro g hg hgB hgl)
          | (refine w_rstoreK Try.elB (.tmp 75) (.tmp 74) (b := zs[j]) rfl rfl rfl rfl rfl rfl oz.out hg (by simpa using hjz) (by simp) ?_; intro w9 hm9 hc9 r9)
          | fail) <;> (try simp only [Act.put, List.setIfInBounds_toArray, List.set_cons_zero, List.set_cons_succ]))
        go_roundw
        case rel => exact ⟨j + 1, zs.set j _, by go_num, by omega, hide_ (by rw [List.map_set]; exact r9), by simpa using hzl, hide_ ⟨hmo.out.1.trans hm9 (fun _ _ h => h), hmo.out.2.trans hc9⟩⟩
        case measure => simp [RowKit.intOf]; omega

set_option maxRecDepth 100000 in
theorem gateRuns_lifted (os : Os) (started : os.Started) (H : Type) (enc : TypeId × Value → H) :
    ReturnsInHanded {} Try.checked os 4 .any (Rows.gateRunsSpec.pre6 enc Try.prog Try.f4 Rows.gateRunsRow.domain false) (Rows.gateRunsSpec.post enc Try.prog Try.f4 false true false false) := by
  refine law_lifted (s := Rows.gateRunsSpec) (conds := Rows.gateRunsRow.domain) Try.func4 (by kernel_rfl) rfl (fun H ds h => by
      rw [show Try.f4.params.size = 2 from rfl] at h
      match ds, h with
      | [d0, d1], _ => rfl) rfl rfl (by decide +kernel) os started H enc
    (ChangeSpec.witness6 (enc := enc) (C := Try.checked) false ⟨#[], #[.slice none 0 0, .slice none 0 0], []⟩ 8 (by kernel_rfl) (by kernel_rfl) (by kernel_rfl) (by kernel_rfl)) ?_
  intro W base args ds p hval hA hsz _
  have hp : Try.f4.params.toList = [24, 28] := rfl
  rw [hp] at hA hsz
  obtain ⟨v0, v1, d0, d1, p0, p1, rfl, rfl, rfl, h0, h1⟩ := trodAll_two hA
  obtain ⟨l0, a0, b0, c0⟩ := arg_ints hsz (j := 0) rfl rfl (hval 0 24 v0 rfl rfl) h0
  obtain ⟨l1, k1⟩ := arg_Gacs hsz (j := 1) rfl rfl (hval 1 28 v1 rfl rfl) h1
  exact gateRuns_law v0 l0 v1 l1 W a0 k1

theorem gateRuns_holds : Rows.GateRunsSaid :=
  OpenClaim.holds_of_wide 4 Try.f4 rfl rfl rfl rfl rfl rfl rfl ⟨rfl, rfl, rfl, rfl, rfl⟩ rfl rfl rfl rfl rfl (by kernel_rfl) Try.func4 (by kernel_rfl)
    (of_decide_eq_true (by kernel_rfl)) (by unfold Func.isWrapper; first | (rw [if_pos (by decide +kernel)]; kernel_rfl) | (rw [if_neg (by decide +kernel)]; exact ⟨rfl, rfl⟩))
    (fun os started H enc _ => gateRuns_lifted os started H enc)
#print axioms gateRuns_holds

end Go.Proofs.Ytgbhbifdfcfamaa
