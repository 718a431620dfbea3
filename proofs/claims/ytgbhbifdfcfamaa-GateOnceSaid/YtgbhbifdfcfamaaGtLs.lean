/- GateSays returns true: what was said passes, again and again; what an honest one didn't say never does under its mark; who is bad may say any vote. No condition. -/
import Derived.Test.YtgbhbifdfcfamaaGtLa
import Derived.Test.YtgbhbifdfcfamaaGtX
import Derived.Test.YtgbhbifdfcfamaaGtT
import Derived.Test.YtgbhbifdfcfamaaMg10
import Derived.Test.YtgbhbifdfcfamaaArgI
import Derived.Test.YtgbhbifdfcfamaaRecsBB
import Derived.Deep.Cut
namespace Go.Proofs.Ytgbhbifdfcfamaa
set_option maxRecDepth 100000
open Go.RowKit Go.ChangeShapes Go.WideShapes Go.ChangeAt

/-- A gate, whatever its blocks. -/
def GaX (w : World) (p g1 g2 : Nat) (v : Value) (g : GaD) : Prop := ∃ G, GaW G w p g1 g2 v g ∧ ∀ k, G k → k < w.heap.size
section
variable {w w' : World} {p g1 g2 : Nat} {v : Value} {g : GaD}
theorem GaX.ext (h : GaX w p g1 g2 v g) (he : Ext w w') : GaX w' p g1 g2 v g := by obtain ⟨G, h, hl⟩ := h; exact ⟨G, h.ext he, fun k hk => Nat.lt_of_lt_of_le (hl k hk) he.size⟩
theorem GaX.maps (h : GaX w p g1 g2 v g) : ∀ k, gm g1 g2 k → IsMapB w k := by obtain ⟨G, h, _⟩ := h; exact h.maps
theorem GaX.below {C : Nat} (h : GaX w p g1 g2 v g) (he : Ext w w') {w'' : World} (hm : Below C w' w'') (hC : w.heap.size ≤ C) : GaX w'' p g1 g2 v g := h.ext ((Below.toMod hm).after he fun i e => Nat.le_trans hC e)
theorem GaX.say (h : GaX w p g1 g2 v g) {vx : Value} {x : List Nat} (hx0 : ∀ c ∈ x, c < 256) (hl0 : x.length ≤ 140737488355328) (hv0 : Byt w vx x) (hfew0 : g.said.length ≤ 1000 ∧ g.kn.length ≤ 1000) :
    Calls Try.prog 12 #[.pointer (some ⟨p, 0, none⟩), vx] w fun e w' => e = .returned (.tuple #[]) ∧ GaX w' p g1 g2 v (g.say x) ∧ Mod (gm g1 g2) w w' := by
  obtain ⟨G, h, hl⟩ := h
  refine (GSay_any h hx0 hl0 hv0 hfew0).mono ?_
  rintro e w' ⟨rfl, G', a, b⟩
  exact ⟨rfl, ⟨G', a, fun k hk => (b.sub k hk).elim (fun h => Nat.lt_of_lt_of_le (hl k h) b.mod.size) fun h => h.2⟩, b.mod⟩
theorem GaX.pass (h : GaX w p g1 g2 v g) {vx : Value} {x : List Nat} (hx0 : ∀ c ∈ x, c < 256) (hl0 : x.length ≤ 140737488355328) (hv0 : Byt w vx x) (hfew0 : g.said.length ≤ 1000 ∧ g.kn.length ≤ 1000) {g' : GaD} {q : Bool} (hq : g.pass x = (g', q)) :
    Calls Try.prog 10 #[.pointer (some ⟨p, 0, none⟩), vx] w fun e w' => e = .returned (.bool q) ∧ GaX w' p g1 g2 v g' ∧ Mod (gm g1 g2) w w' := by
  obtain ⟨G, h, hl⟩ := h
  refine (GPass_any h hx0 hl0 hv0 hfew0).mono ?_
  rintro e w' ⟨rfl, G', a, b⟩
  rw [hq] at a ⊢
  exact ⟨rfl, ⟨G', a, fun k hk => (b.sub k hk).elim (fun h => Nat.lt_of_lt_of_le (hl k h) b.mod.size) fun h => h.2⟩, b.mod⟩
theorem GaX.bad (h : GaX w p g1 g2 v g) {n : Int} {q : Bool} (hq : decide (n ∈ g.bad) = q) : Calls Try.prog 11 #[.pointer (some ⟨p, 0, none⟩), .int .i64 n] w fun e w' => e = .returned (.bool q) ∧ Ext w w' := by
  obtain ⟨G, h, _⟩ := h
  refine (GBad_any h n).mono ?_
  rintro e w' ⟨rfl, hx⟩; rw [hq]; exact ⟨rfl, hx⟩
theorem gax_new {l : List Int} (h0 : Ints w v l) (hl0 : l.length * 8 ≤ 140737488355328) :
    Calls Try.prog 8 #[v] w fun e w' => ∃ p, e = .returned (.pointer (some ⟨p, 0, none⟩)) ∧ ∃ g1 g2 v', GaX w' p g1 g2 v' ⟨l, [], []⟩ ∧ Ext w w' ∧ ∀ k, gm g1 g2 k → w.heap.size ≤ k := by
  refine (GNew_any h0 hl0).mono ?_
  rintro e w' ⟨p, rfl, g1, g2, v', G, h, hx, hn⟩
  exact ⟨p, rfl, g1, g2, v', ⟨G, h, fun k hk => (hn k hk).2⟩, hx, fun k hk => (hn k (hk.elim (fun e => e ▸ h.inG.2.1) fun e => e ▸ h.inG.2.2.1)).1⟩
end
theorem omE_is (o : Option MsgD) : ((omE o : Nat) : Int) = 0 ↔ o.isSome = true := by cases o <;> simp [omE]
def sayAll (g : GaD) (l : List (List Nat)) : GaD := l.foldl GaD.say g
theorem sayAll_succ {g : GaD} {l : List (List Nat)} {k : Nat} {y : List Nat} (h : l[k]? = some y) : (sayAll g (l.take k)).say y = sayAll g (l.take (k + 1)) := by
  unfold sayAll
  rw [List.take_add_one, h, Option.toList_some, List.foldl_append]; rfl
theorem sayAll_is (b : List Int) : ∀ (l : List (List Nat)) (g : GaD), (sayAll g l).bad = g.bad ∧ (sayAll g l).said = g.said ++ l ∧ (sayAll g l).kn.length ≤ g.kn.length + l.length
  | [], g => ⟨rfl, by simp [sayAll], by simp [sayAll]⟩
  | x :: l, g => by
    obtain ⟨h1, h2, h3⟩ := sayAll_is b l (g.say x)
    obtain ⟨k1, k2, k3⟩ := GaD.say_bad (g := g) (x := x)
    refine ⟨h1.trans k1, ?_, ?_⟩
    · show (sayAll (g.say x) l).said = _; rw [h2, k2]; simp
    · show (sayAll (g.say x) l).kn.length ≤ _; simp; omega
set_option maxRecDepth 100000 in
set_option maxHeartbeats 3200000 in
theorem gateSays_law (row : List Value) (m : MsgD) (vb : Value) (bad : List Int) (vs : Value) (said : List (List Nat)) (w : World) (ha : MsgR w row m) (hb0 : Ints w vb bad) (hs0 : Recs 1 BytOk w vs said) :
    Calls Try.prog 6 #[vb, vs, .agg row.toArray] w fun e w' => e = .returned (.bool true) ∧ Ext w w' := by
  obtain ⟨⟨u, rfl, r1⟩, hraw0⟩ := ha
  refine calls_keep ?_
  have hX := Ext.refl w
  have hb := hide_ hb0
  have hu := hide_ r1
  have hs := hide_ hs0
  have hraw := hide_ (show I64 m.vl ∧ I64 m.bk.parent from ⟨hraw0.vl, hraw0.bk.parent⟩)
  have hsO := hide_ (show ∀ y ∈ said, (∀ c ∈ y, c < 256) ∧ y.length ≤ 140737488351232 from fun y hy => by
    obtain ⟨rows, h1, h2, h3⟩ := hs0
    obtain ⟨k, hk, rfl⟩ := List.getElem_of_mem hy
    exact (h3 k _ _ (List.getElem?_eq_getElem (by omega)) (List.getElem?_eq_getElem hk)).2)
  clear hraw0 r1 hb0 hs0
  go_enter Try.func6, Try.ntmps6
  go_upto_region 3 with ((first
    | go_big_skip
    | ((with_reducible refine at_box ?_); refine w_box _ (mRow m u) rfl rfl rfl rfl ?_; intro g5 w1 hg5 hx f5; replace f5 := hide_ f5; replace hX := hX.trans hx; clear hx)
    | (go_at_call 9; refine (gateAlive_any _).mono ?_; rintro e w4 ⟨rfl, hx⟩; replace f5 := hide_ (f5.out.ext hx); replace hX := hX.trans hx; clear hx)
    | fail) <;> (try simp only [Act.put, List.setIfInBounds_toArray, List.set_cons_zero, List.set_cons_succ]))
  by_cases hL : 40 < said.length
  · have t1 : decide ((40 : Int) < (said.length : Int)) = true := decide_eq_true (by omega)
    clear hL
    go_wp2_with ((first
      | go_big_skip
      | ((with_reducible refine at_bi ?_); (try refine w_yes _ _ _ rfl rfl rfl ?_); refine w_rlen Try.elBBS _ rfl rfl rfl (hs.out.ext BytOk.stays hX) ?_)
      | fail) <;> (try simp only [Act.put, List.setIfInBounds_toArray, List.set_cons_zero, List.set_cons_succ]))
    go_ret
    exact Keep.intro ⟨rfl, hX⟩
  have t1 : decide ((40 : Int) < (said.length : Int)) = false := decide_eq_false (by omega)
  by_cases hB : 20 < bad.length
  · have t0 : decide ((20 : Int) < (bad.length : Int)) = true := decide_eq_true (by omega)
    clear hL hB
    go_wp2_with ((first
      | go_big_skip
      | ((with_reducible refine at_bi ?_); (try refine w_yes _ _ _ rfl rfl rfl ?_); refine w_rlen Try.elBBS _ rfl rfl rfl (hs.out.ext BytOk.stays hX) ?_)
      | ((with_reducible refine at_bi ?_); (try refine w_yes _ _ _ rfl rfl rfl ?_); refine i_len _ rfl rfl rfl (hb.out.ext hX) ?_)
      | fail) <;> (try simp only [Act.put, List.setIfInBounds_toArray, List.set_cons_zero, List.set_cons_succ]))
    go_ret
    exact Keep.intro ⟨rfl, hX⟩
  have t0 : decide ((20 : Int) < (bad.length : Int)) = false := decide_eq_false (by omega)
  have hbl := hide_ (show bad.length ≤ 20 from by omega)
  have hsl := hide_ (show said.length ≤ 40 from by omega)
  clear hL hB
  go_wp2_with ((first
    | go_big_skip
    | ((with_reducible refine at_bi ?_); (try refine w_yes _ _ _ rfl rfl rfl ?_); refine w_rlen Try.elBBS _ rfl rfl rfl (hs.out.ext BytOk.stays hX) ?_)
    | ((with_reducible refine at_bi ?_); (try refine w_yes _ _ _ rfl rfl rfl ?_); refine i_len _ rfl rfl rfl (hb.out.ext hX) ?_)
    | (refine w_empt Try.elI rfl rfl ?_; intro ge we hge hx oe; replace oe := hide_ oe; clear hge; (try replace f5 := hide_ (f5.out.ext hx)); (try replace ib := hide_ (ib.out.ext hx)); (try replace hG := hide_ (hG.out.ext hx)); (try replace b14 := hide_ (b14.out.ext hx)); replace hX := hX.trans hx; clear hx)
    | (refine w_appE Try.elI _ _ rfl rfl rfl rfl oe.out (ys := i64s bad) (hb.out.ext hX) (i64s_one _) (by rw [i64s_length]; have := hbl.out; omega) ?_; intro vi wf hx on; have ib := hide_ (show Ints wf vi bad from Sl.of_own on); clear on oe; (try replace f5 := hide_ (f5.out.ext hx)); (try replace ib := hide_ (ib.out.ext hx)); (try replace hG := hide_ (hG.out.ext hx)); (try replace b14 := hide_ (b14.out.ext hx)); replace hX := hX.trans hx; clear hx)
    | (go_at_call 8; refine (gax_new ib.out (by have := hbl.out; omega)).mono ?_; rintro e w2 ⟨p, rfl, g1, g2, vgb, hG00, hx, hnew⟩; have hG := hide_ hG00; have hgW := hide_ (fun k hk => Nat.le_trans hX.size (hnew k hk)); clear hG00 hnew ib; replace f5 := hide_ (f5.out.ext hx); replace hX := hX.trans hx; clear hx)
    | fail) <;> (try simp only [Act.put, List.setIfInBounds_toArray, List.set_cons_zero, List.set_cons_succ]))
  obtain ⟨gs, hgs0⟩ : ∃ gs, sayAll ⟨bad, [], []⟩ said = gs := ⟨_, rfl⟩
  have hsa := sayAll_is bad said ⟨bad, [], []⟩
  rw [hgs0] at hsa
  have hgs := hide_ hgs0
  have hgb := hide_ (show gs.bad = bad from hsa.1)
  have hgd := hide_ (show gs.said = said from by have := hsa.2.1; simpa using this)
  have hgf := hide_ (show gs.said.length ≤ 1000 ∧ gs.kn.length ≤ 1000 from ⟨by rw [hsa.2.1]; have := hsl.out; simp; omega, by have h1 := hsa.2.2; have h2 := hsl.out; simp at h1; omega⟩)
  clear hsa hgs0 t1 t0
  go_loopw [36] (fun i wr => ∃ k : Nat, i = .int .i64 k ∧ k ≤ said.length ∧ Hid (GaX wr p g1 g2 vgb (sayAll ⟨bad, [], []⟩ (said.take k))) ∧ Hid (Fs wr g5 (mRow m u)) ∧ Ext w wr) (fun i _ => said.length - (RowKit.intOf i).toNat)
  case atStart => exact ⟨0, rfl, Nat.zero_le _, hG, f5, hX⟩
  case round =>
  clear hX hG f5
  obtain ⟨k, rfl, hk, hG, f5, hX⟩ := hrel
  by_cases hge : said.length ≤ k
  rotate_left
  · skip
    have hlt : k < said.length := by omega
    have t2 : decide (k < said.length) = true := by simpa using hlt
    obtain ⟨y, hdy0⟩ : ∃ y, said[k]? = some y := ⟨_, List.getElem?_eq_getElem hlt⟩
    have hdy := hide_ hdy0
    have hyO := hsO.out y (List.mem_of_getElem? hdy0)
    have hy256 := hide_ hyO.1
    have hyl := hide_ hyO.2
    have hlt' := hide_ hlt
    have hkb : k ≤ 40 := by have := hsl.out; omega
    have hstep := hide_ (sayAll_succ (g := ⟨bad, [], []⟩) hdy0)
    have hfew := hide_ (show (sayAll ⟨bad, [], []⟩ (said.take k)).said.length ≤ 1000 ∧ (sayAll ⟨bad, [], []⟩ (said.take k)).kn.length ≤ 1000 from by
      have h := sayAll_is bad (said.take k) ⟨bad, [], []⟩
      have h1 := congrArg List.length h.2.1
      simp only [List.nil_append, List.length_nil, Nat.zero_add] at h h1
      have h2 : (said.take k).length ≤ k := by rw [List.length_take]; omega
      exact ⟨by omega, by have := h.2.2; omega⟩)
    have c1 : True := trivial
    have d1 : True := trivial
    clear hge hlt hdy0 hyO
    go_wp2_with ((first
      | go_big_skip
      | ((with_reducible refine at_idx ?_); refine w_byidx _ _ k rfl rfl rfl rfl hs.out hX hdy.out ?_; intro pa uy hrow0 hby0; have hrow := hide_ hrow0; have hby := hide_ hby0; clear hrow0 hby0)
      | ((with_reducible refine at_load ?_); refine w_cload _ rfl rfl rfl hrow.out (agg_of (by kernel_rfl)) ?_; clear hrow)
      | (have _t := c1; (try refine w_yes _ _ _ rfl rfl rfl ?_); refine w_empt Try.elB rfl rfl ?_; intro ge we hge hx oe; replace oe := hide_ oe; clear c1 _t hge; (try replace f5 := hide_ (f5.out.ext hx)); (try replace ib := hide_ (ib.out.ext hx)); (try replace hG := hide_ (hG.out.ext hx)); (try replace b14 := hide_ (b14.out.ext hx)); replace hX := hX.trans hx; clear hx)
      | (have _t := d1; (try refine w_yes _ _ _ rfl rfl rfl ?_); refine w_appE Try.elB _ _ rfl rfl rfl rfl oe.out (ys := u8s y) (hby.out.ext hX) (u8s_one _) (by rw [u8s_length]; have := hyl.out; omega) ?_; intro v10 wf hx on; have v10b := hide_ (show Byt wf v10 y from Sl.of_own on); clear d1 _t on oe; (try replace f5 := hide_ (f5.out.ext hx)); (try replace ib := hide_ (ib.out.ext hx)); (try replace hG := hide_ (hG.out.ext hx)); (try replace b14 := hide_ (b14.out.ext hx)); replace hX := hX.trans hx; clear hx)
      | (go_at_call 12; refine (GaX.say hG.out hy256.out (Nat.le_trans hyl.out (by omega)) v10b.out hfew.out).mono ?_; rintro e w6 ⟨rfl, hG', hN⟩; rw [hstep.out] at hG'; clear v10b; have hM := hG.out.maps; replace f5 := hide_ (f5.out.mapmod hN hM); replace hX := hN.after hX hgW.out; replace hG := hide_ hG'; clear hG' hN hM)
      | fail) <;> (try simp only [Act.put, List.setIfInBounds_toArray, List.set_cons_zero, List.set_cons_succ]))
    go_roundw
    case rel => exact ⟨k + 1, by go_num, hlt'.out, hG, f5, hX⟩
    case measure => have := hlt'.out; simp [RowKit.intOf]; omega
  obtain rfl : k = said.length := by omega
  have t2 : decide (said.length < said.length) = false := by simp
  have hG1 := hG.out
  rw [List.take_length, hgs.out] at hG1
  clear hG
  have hG := hide_ hG1
  clear hG1 hge hgs
  go_wp2_with ((first
    | go_big_skip
    | ((with_reducible refine at_bi ?_); (try refine w_yes _ _ _ rfl rfl rfl ?_); refine w_rlen Try.elBBS _ rfl rfl rfl (hs.out.ext BytOk.stays hX) ?_)
    | fail) <;> (try simp only [Act.put, List.setIfInBounds_toArray, List.set_cons_zero, List.set_cons_succ]))
  go_loopw [48] (fun i wr => ∃ k : Nat, i = .int .i64 k ∧ k ≤ said.length ∧ Hid (GaX wr p g1 g2 vgb gs) ∧ Hid (Fs wr g5 (mRow m u)) ∧ Ext w wr) (fun i _ => said.length - (RowKit.intOf i).toNat)
  case atStart => exact ⟨0, rfl, Nat.zero_le _, hG, f5, hX⟩
  case round =>
  clear hX hG f5 t2 hk
  obtain ⟨k, rfl, hk, hG, f5, hX⟩ := hrel
  by_cases hge : said.length ≤ k
  rotate_left
  · skip
    have hlt : k < said.length := by omega
    have t2 : decide (k < said.length) = true := by simpa using hlt
    obtain ⟨y, hdy0⟩ : ∃ y, said[k]? = some y := ⟨_, List.getElem?_eq_getElem hlt⟩
    have hdy := hide_ hdy0
    have hyO := hsO.out y (List.mem_of_getElem? hdy0)
    have hy256 := hide_ hyO.1
    have hyl := hide_ hyO.2
    have hlt' := hide_ hlt
    have hkb : k ≤ 40 := by have := hsl.out; omega
    obtain ⟨q, hq0⟩ : ∃ q, (rdMsg y).isSome = q := ⟨_, rfl⟩
    have hps := hide_ (show gs.pass y = (gs, q) from by rw [GaD.pass_said (by rw [hgd.out]; exact List.mem_of_getElem? hdy0), hq0])
    have hqm := hide_ hq0
    have eq1 : (q != q) = false := by simp
    have c1 : True := trivial
    have d1 : True := trivial
    have c2 : True := trivial
    have d2 : True := trivial
    have e1 : True := trivial
    have e2 : True := trivial
    obtain ⟨oe0, hoE0⟩ : ∃ oe0, omE (rdMsg y) = oe0 := ⟨_, rfl⟩
    obtain ⟨mo, hoM0⟩ : ∃ mo, mOr (rdMsg y) = mo := ⟨_, rfl⟩
    have hoE := hide_ hoE0
    have hoM := hide_ hoM0
    have te : (((oe0 : Nat) : Int) == 0) = q := by rw [← hoE0, ← hq0, Bool.eq_iff_iff, beq_iff_eq]; exact omE_is _
    have te2 : (oe0 == 0) = q := by rw [← te, Bool.eq_iff_iff, beq_iff_eq, beq_iff_eq]; omega
    clear hge hlt hdy0 hyO hq0 hoE0 hoM0
    go_wp2_with ((first
      | go_big_skip
      | ((with_reducible refine at_idx ?_); refine w_byidx _ _ k rfl rfl rfl rfl hs.out hX hdy.out ?_; intro pa uy hrow0 hby0; have hrow := hide_ hrow0; have hby := hide_ hby0; clear hrow0 hby0)
      | ((with_reducible refine at_load ?_); refine w_cload _ rfl rfl rfl hrow.out (agg_of (by kernel_rfl)) ?_; clear hrow)
      | (go_at_call 16; refine (refMRead_any hy256.out (Nat.le_trans hyl.out (by omega)) (hby.out.ext hX)).mono ?_; rintro e w22 ⟨u9, rfl, hx, ou0⟩; rw [hoE.out, hoM.out]; have ho9 := hide_ ou0.recs.oneC; clear ou0; (try replace f5 := hide_ (f5.out.ext hx)); (try replace ib := hide_ (ib.out.ext hx)); (try replace hG := hide_ (hG.out.ext hx)); (try replace b14 := hide_ (b14.out.ext hx)); replace hX := hX.trans hx; clear hx)
      | ((with_reducible refine at_alloc ?_); refine w_agalloc Try.agMsg rfl rfl ?_; intro g12 w23 hg12 hxa f12)
      | ((with_reducible refine at_store ?_); refine w_agput Try.agMsg (us := mRow mo u9) _ _ rfl rfl rfl rfl rfl f12 rfl rfl (m_one ho9.out) ?_; intro w24 hm24 f25; have hx := hm24.after hxa (fun i e => e ▸ hg12); clear hm24 f25 f12 hxa hg12 ho9; (try replace f5 := hide_ (f5.out.ext hx)); (try replace ib := hide_ (ib.out.ext hx)); (try replace hG := hide_ (hG.out.ext hx)); (try replace b14 := hide_ (b14.out.ext hx)); replace hX := hX.trans hx; clear hx)
      | (have _t := c1; (try refine w_yes _ _ _ rfl rfl rfl ?_); refine w_empt Try.elB rfl rfl ?_; intro ge we hge hx oe; replace oe := hide_ oe; clear c1 _t hge; (try replace f5 := hide_ (f5.out.ext hx)); (try replace ib := hide_ (ib.out.ext hx)); (try replace hG := hide_ (hG.out.ext hx)); (try replace b14 := hide_ (b14.out.ext hx)); replace hX := hX.trans hx; clear hx)
      | (have _t := d1; (try refine w_yes _ _ _ rfl rfl rfl ?_); refine w_appE Try.elB _ _ rfl rfl rfl rfl oe.out (ys := u8s y) (hby.out.ext hX) (u8s_one _) (by rw [u8s_length]; have := hyl.out; omega) ?_; intro v10 wf hx on; have v10b := hide_ (show Byt wf v10 y from Sl.of_own on); clear d1 _t on oe; (try replace f5 := hide_ (f5.out.ext hx)); (try replace ib := hide_ (ib.out.ext hx)); (try replace hG := hide_ (hG.out.ext hx)); (try replace b14 := hide_ (b14.out.ext hx)); replace hX := hX.trans hx; clear hx)
      | (have _t := e1; go_at_call 10; refine (GaX.pass hG.out hy256.out (Nat.le_trans hyl.out (by omega)) v10b.out hgf.out hps.out).mono ?_; rintro e w6 ⟨rfl, hG', hN⟩; clear v10b e1 _t; have hM := hG.out.maps; replace f5 := hide_ (f5.out.mapmod hN hM); replace hX := hN.after hX hgW.out; replace hG := hide_ hG'; clear hG' hN hM)
      | (have _t := c2; (try refine w_yes _ _ _ rfl rfl rfl ?_); refine w_empt Try.elB rfl rfl ?_; intro ge we hge hx oe; replace oe := hide_ oe; clear c2 _t hge; (try replace f5 := hide_ (f5.out.ext hx)); (try replace ib := hide_ (ib.out.ext hx)); (try replace hG := hide_ (hG.out.ext hx)); (try replace b14 := hide_ (b14.out.ext hx)); replace hX := hX.trans hx; clear hx)
      | (have _t := d2; (try refine w_yes _ _ _ rfl rfl rfl ?_); refine w_appE Try.elB _ _ rfl rfl rfl rfl oe.out (ys := u8s y) (hby.out.ext hX) (u8s_one _) (by rw [u8s_length]; have := hyl.out; omega) ?_; intro v11 wf hx on; have v11b := hide_ (show Byt wf v11 y from Sl.of_own on); clear d2 _t on oe; (try replace f5 := hide_ (f5.out.ext hx)); (try replace ib := hide_ (ib.out.ext hx)); (try replace hG := hide_ (hG.out.ext hx)); (try replace b14 := hide_ (b14.out.ext hx)); replace hX := hX.trans hx; clear hx)
      | (have _t := e2; go_at_call 10; refine (GaX.pass hG.out hy256.out (Nat.le_trans hyl.out (by omega)) v11b.out hgf.out hps.out).mono ?_; rintro e w6 ⟨rfl, hG', hN⟩; clear v11b e2 _t; have hM := hG.out.maps; replace f5 := hide_ (f5.out.mapmod hN hM); replace hX := hN.after hX hgW.out; replace hG := hide_ hG'; clear hG' hN hM)
      | fail) <;> (try simp only [Act.put, List.setIfInBounds_toArray, List.set_cons_zero, List.set_cons_succ]))
    go_roundw
    case rel => exact ⟨k + 1, by go_num, hlt'.out, hG, f5, hX⟩
    case measure => have := hlt'.out; simp [RowKit.intOf]; omega
  obtain rfl : k = said.length := by omega
  have t2 : decide (said.length < said.length) = false := by simp
  clear hge
  by_cases hr0 : m.Right
  rotate_left
  · have hright := hide_ hr0
    clear hr0
    go_wp2_with ((first
      | go_big_skip
      | ((with_reducible refine at_load ?_); refine w_loadN Try.stMsg _ (mRow m u) rfl rfl rfl f5.out rfl mself_at ?_)
      | (go_at_call 19; refine (refMBytes_no (d := m) (u := u) hright.out (hu.out.ext TxR.stays hX) hraw.out.1 hraw.out.2).mono ?_; rintro e w3 ⟨rfl, hx⟩; (try replace f5 := hide_ (f5.out.ext hx)); (try replace ib := hide_ (ib.out.ext hx)); (try replace hG := hide_ (hG.out.ext hx)); (try replace b14 := hide_ (b14.out.ext hx)); replace hX := hX.trans hx; clear hx)
      | fail) <;> (try simp only [Act.put, List.setIfInBounds_toArray, List.set_cons_zero, List.set_cons_succ]))
    go_ret
    exact Keep.intro ⟨rfl, hX⟩
  have hright := hide_ hr0
  obtain ⟨x, hxe0⟩ : ∃ x, x = m.bytes := ⟨_, rfl⟩
  have hxe := hide_ hxe0
  have hxl := hide_ (show x.length ≤ 180 from by rw [hxe0]; exact MsgD.bytes_len hr0)
  have hx256 := hide_ (show ∀ c ∈ x, c < 256 from by rw [hxe0]; exact m.bytes_lt)
  have hrx := hide_ (show rdMsg x = some m from by rw [hxe0]; exact rd_bytes' hr0)
  clear hr0 hxe0
  go_wp2_with ((first
    | go_big_skip
    | ((with_reducible refine at_load ?_); refine w_loadN Try.stMsg _ (mRow m u) rfl rfl rfl f5.out rfl mself_at ?_)
    | (go_at_call 19; refine (refMBytes_yes (d := m) (u := u) hright.out (hu.out.ext TxR.stays hX) hraw.out.1 hraw.out.2).mono ?_; rintro e w3 ⟨v14, rfl, o7, hx⟩; have b14 := hide_ (show Byt w3 v14 x from hxe.out ▸ o7.byt); clear o7; replace f5 := hide_ (f5.out.ext hx); replace hG := hide_ (hG.out.ext hx); replace hX := hX.trans hx; clear hx)
    | ((with_reducible refine at_bi ?_); (try refine w_yes _ _ _ rfl rfl rfl ?_); refine w_rlen Try.elBBS _ rfl rfl rfl (hs.out.ext BytOk.stays hX) ?_)
    | fail) <;> (try simp only [Act.put, List.setIfInBounds_toArray, List.set_cons_zero, List.set_cons_succ]))
  have b14x := hide_ b14.out
  go_loopw [16, 85] (fun u16 i wr => ∃ k : Nat, i = .int .i64 k ∧ k ≤ said.length ∧ u16 = .bool (decide (x ∈ said.take k)) ∧ Hid (GaX wr p g1 g2 vgb gs) ∧ Hid (Fs wr g5 (mRow m u)) ∧ Hid (Byt wr v14 x) ∧ Ext w wr) (fun _ i _ => said.length - (RowKit.intOf i).toNat)
  case atStart => exact ⟨0, rfl, Nat.zero_le _, by simp, hG, f5, b14, hX⟩
  case round =>
  clear hX hG f5 t2 hk b14 b14x
  obtain ⟨k, rfl, hk, hu16, hG, f5, b14, hX⟩ := hrel
  obtain ⟨was, hwas0⟩ : ∃ q, decide (x ∈ said.take k) = q := ⟨_, rfl⟩
  rw [hwas0] at hu16
  subst hu16
  by_cases hge : said.length ≤ k
  rotate_left
  · skip
    have hlt : k < said.length := by omega
    have t2 : decide (k < said.length) = true := by simpa using hlt
    obtain ⟨y, hdy0⟩ : ∃ y, said[k]? = some y := ⟨_, List.getElem?_eq_getElem hlt⟩
    have hdy := hide_ hdy0
    have hyO := hsO.out y (List.mem_of_getElem? hdy0)
    have hy256 := hide_ hyO.1
    have hyl := hide_ hyO.2
    have hlt' := hide_ hlt
    have hkb : k ≤ 40 := by have := hsl.out; omega
    obtain ⟨s1, hs1⟩ : ∃ s, s = strN y := ⟨_, rfl⟩
    obtain ⟨s2, hs2⟩ : ∃ s, s = strN x := ⟨_, rfl⟩
    have es1 := hide_ hs1
    have es2 := hide_ hs2
    obtain ⟨qs, hqs0⟩ : ∃ q, decide (y = x) = q := ⟨_, rfl⟩
    have t : (s1.toList == s2.toList) = qs := by
      rw [← hqs0, Bool.eq_iff_iff, beq_iff_eq, decide_eq_true_iff, hs1, hs2]
      exact ⟨fun e => strN_inj hy256.out hx256.out (bytes_ext e), fun e => by rw [e]⟩
    have hnx := hide_ (show decide (x ∈ said.take (k + 1)) = (was || qs) from by
      rw [← hwas0, ← hqs0, List.take_add_one, hdy0, Bool.eq_iff_iff]
      simp only [Option.toList_some, List.mem_append, List.mem_singleton, Bool.or_eq_true, decide_eq_true_iff]
      exact ⟨fun h => h.imp id Eq.symm, fun h => h.imp id Eq.symm⟩)
    clear hge hlt hdy0 hyO hs1 hs2 hqs0 hwas0
    cases was
    all_goals (
      go_wp2_with ((first
        | go_big_skip
        | ((with_reducible refine at_idx ?_); refine w_byidx _ _ k rfl rfl rfl rfl hs.out hX hdy.out ?_; intro pa uy hrow0 hby0; have hrow := hide_ hrow0; have hby := hide_ hby0; clear hrow0 hby0)
        | ((with_reducible refine at_load ?_); refine w_cload _ rfl rfl rfl hrow.out (agg_of (by kernel_rfl)) ?_; clear hrow)
        | ((with_reducible refine at_conv ?_); (try refine w_yes _ _ _ rfl rfl rfl ?_); refine w_str _ rfl rfl (v := uy) rfl (hby.out.ext hX) ?_; rw [← es1.out])
        | ((with_reducible refine at_conv ?_); (try refine w_yes _ _ _ rfl rfl rfl ?_); refine w_str _ rfl rfl (v := v14) rfl b14.out ?_; rw [← es2.out])
        | fail) <;> (try simp only [Act.put, List.setIfInBounds_toArray, List.set_cons_zero, List.set_cons_succ]))
      go_roundw
      case rel => exact ⟨k + 1, by go_num, hlt'.out, by rw [hnx.out]; rfl, hG, f5, b14, hX⟩
      case measure => have := hlt'.out; simp [RowKit.intOf]; omega)
  obtain rfl : k = said.length := by omega
  have t2 : decide (said.length < said.length) = false := by simp
  rw [List.take_length] at hwas0
  obtain ⟨gs2, q, hp0⟩ : ∃ g q, gs.pass x = (g, q) := ⟨_, _, rfl⟩
  have hp := hide_ hp0
  have hb2 : gs2.bad = bad := by have := (GaD.pass_bad (g := gs) (x := x)).1; rw [hp0] at this; exact this.trans hgb.out
  obtain ⟨bd, hbd0⟩ : ∃ q, decide (m.fm ∈ gs2.bad) = q := ⟨_, rfl⟩
  have hbd := hide_ hbd0
  have hqw : (was = true → q = true) ∧ (m.kd ≠ 1 → q = (was || bd)) := by
    rw [GaD.pass_some hrx.out, hgd.out, hgb.out] at hp0
    rw [hb2] at hbd0
    by_cases hin : x ∈ said
    · rw [if_pos hin] at hp0
      injection hp0 with _ hp0
      rw [← hwas0, decide_eq_true hin]; exact ⟨fun _ => hp0.symm, fun _ => by rw [Bool.true_or]; exact hp0.symm⟩
    · rw [if_neg hin] at hp0
      rw [← hwas0, decide_eq_false hin]
      refine ⟨fun h => (nomatch h), fun hk => ?_⟩
      rw [if_neg hk] at hp0
      rw [Bool.false_or, ← hbd0]
      by_cases hb : m.fm ∈ bad
      · rw [if_pos hb] at hp0; injection hp0 with _ hp0; rw [decide_eq_true hb]; exact hp0.symm
      · rw [if_neg hb] at hp0; injection hp0 with _ hp0; rw [decide_eq_false hb]; exact hp0.symm
  have c1 : True := trivial
  have d1 : True := trivial
  have e1 : True := trivial
  clear hge hwas0 hp0 hb2 hbd0 hrx hgb hgd
  by_cases hkd : m.kd = 1
  · have t3 : (m.kd == 1) = true := by simp [hkd]
    have hq1 := hqw.1
    clear hqw hkd
    cases was
    all_goals (cases q)
    all_goals first
      | (exfalso; exact absurd (hq1 rfl) (by decide))
      | (clear hq1
         go_wp2_with ((first
           | go_big_skip
           | (have _t := c1; (try refine w_yes _ _ _ rfl rfl rfl ?_); refine w_empt Try.elB rfl rfl ?_; intro ge we hge hx oe; replace oe := hide_ oe; clear c1 _t hge; (try replace f5 := hide_ (f5.out.ext hx)); (try replace ib := hide_ (ib.out.ext hx)); (try replace hG := hide_ (hG.out.ext hx)); (try replace b14 := hide_ (b14.out.ext hx)); replace hX := hX.trans hx; clear hx)
           | (have _t := d1; (try refine w_yes _ _ _ rfl rfl rfl ?_); refine w_appE Try.elB _ _ rfl rfl rfl rfl oe.out (ys := u8s x) (b14.out) (u8s_one _) (by rw [u8s_length]; have := hxl.out; omega) ?_; intro v10 wf hx on; have v10b := hide_ (show Byt wf v10 x from Sl.of_own on); clear d1 _t on oe; (try replace f5 := hide_ (f5.out.ext hx)); (try replace ib := hide_ (ib.out.ext hx)); (try replace hG := hide_ (hG.out.ext hx)); (try replace b14 := hide_ (b14.out.ext hx)); replace hX := hX.trans hx; clear hx)
           | (have _t := e1; go_at_call 10; refine (GaX.pass hG.out hx256.out (Nat.le_trans hxl.out (by omega)) v10b.out hgf.out hp.out).mono ?_; rintro e w6 ⟨rfl, hG', hN⟩; clear v10b e1 _t; have hM := hG.out.maps; replace f5 := hide_ (f5.out.mapmod hN hM); replace hX := hN.after hX hgW.out; replace hG := hide_ hG'; clear hG' hN hM)
           | ((with_reducible refine at_field ?_); (try refine w_yes _ _ _ rfl rfl rfl ?_); refine w_mfield _ _ _ rfl rfl rfl (by omega) ?_)
           | ((with_reducible refine at_load ?_); (try refine w_yes _ _ _ rfl rfl rfl ?_); refine w_fload _ rfl rfl rfl f5.out rfl (agg_of (by kernel_rfl)) ?_)
           | fail) <;> (try simp only [Act.put, List.setIfInBounds_toArray, List.set_cons_zero, List.set_cons_succ]))
         go_ret
         exact Keep.intro ⟨rfl, hX⟩)
  · have t3 : (m.kd == 1) = false := by simpa using hkd
    have hq1 := hqw.2 hkd
    have t6 : (q == (was || bd)) = true := by rw [hq1]; simp
    clear hqw hkd hq1
    cases was
    all_goals (
      go_wp2_with ((first
        | go_big_skip
        | (have _t := c1; (try refine w_yes _ _ _ rfl rfl rfl ?_); refine w_empt Try.elB rfl rfl ?_; intro ge we hge hx oe; replace oe := hide_ oe; clear c1 _t hge; (try replace f5 := hide_ (f5.out.ext hx)); (try replace ib := hide_ (ib.out.ext hx)); (try replace hG := hide_ (hG.out.ext hx)); (try replace b14 := hide_ (b14.out.ext hx)); replace hX := hX.trans hx; clear hx)
        | (have _t := d1; (try refine w_yes _ _ _ rfl rfl rfl ?_); refine w_appE Try.elB _ _ rfl rfl rfl rfl oe.out (ys := u8s x) (b14.out) (u8s_one _) (by rw [u8s_length]; have := hxl.out; omega) ?_; intro v10 wf hx on; have v10b := hide_ (show Byt wf v10 x from Sl.of_own on); clear d1 _t on oe; (try replace f5 := hide_ (f5.out.ext hx)); (try replace ib := hide_ (ib.out.ext hx)); (try replace hG := hide_ (hG.out.ext hx)); (try replace b14 := hide_ (b14.out.ext hx)); replace hX := hX.trans hx; clear hx)
        | (have _t := e1; go_at_call 10; refine (GaX.pass hG.out hx256.out (Nat.le_trans hxl.out (by omega)) v10b.out hgf.out hp.out).mono ?_; rintro e w6 ⟨rfl, hG', hN⟩; clear v10b e1 _t; have hM := hG.out.maps; replace f5 := hide_ (f5.out.mapmod hN hM); replace hX := hN.after hX hgW.out; replace hG := hide_ hG'; clear hG' hN hM)
        | ((with_reducible refine at_field ?_); (try refine w_yes _ _ _ rfl rfl rfl ?_); refine w_mfield _ _ _ rfl rfl rfl (by omega) ?_)
        | ((with_reducible refine at_load ?_); (try refine w_yes _ _ _ rfl rfl rfl ?_); refine w_fload _ rfl rfl rfl f5.out rfl (agg_of (by kernel_rfl)) ?_)
        | (go_at_call 11; refine (GaX.bad hG.out hbd.out).mono ?_; rintro e w6 ⟨rfl, hx⟩; (try replace f5 := hide_ (f5.out.ext hx)); (try replace ib := hide_ (ib.out.ext hx)); (try replace hG := hide_ (hG.out.ext hx)); (try replace b14 := hide_ (b14.out.ext hx)); replace hX := hX.trans hx; clear hx)
        | fail) <;> (try simp only [Act.put, List.setIfInBounds_toArray, List.set_cons_zero, List.set_cons_succ]))
      go_ret
      exact Keep.intro ⟨by first | rfl | (rw [show _ = true from t6]) | simp_all, hX⟩)

set_option maxRecDepth 100000 in
theorem gateSays_lifted (os : Os) (started : os.Started) (H : Type) (enc : TypeId × Value → H) :
    ReturnsInHanded {} Try.checked os 6 .any (Rows.gateSaysSpec.pre6 enc Try.prog Try.f6 Rows.gateSaysRow.domain false) (Rows.gateSaysSpec.post enc Try.prog Try.f6 false true false false) := by
  refine law_lifted (s := Rows.gateSaysSpec) (conds := Rows.gateSaysRow.domain) Try.func6 (by kernel_rfl) rfl (fun H ds h => by
      rw [show Try.f6.params.size = 3 from rfl] at h
      match ds, h with
      | [d0, d1, d2], _ => rfl) rfl rfl (by decide +kernel) os started H enc
    (ChangeSpec.witness6 (enc := enc) (C := Try.checked) false ⟨#[], #[.slice none 0 0, .slice none 0 0, .agg #[.int .i64 0, .int .i64 0, .int .i64 0, .int .i64 0, .int .i64 0, .int .i64 0, .int .i64 0, .int .i64 0, .int .i64 0, .int .i64 0, .int .i64 0, .int .i64 0, .slice none 0 0]], []⟩ 8 (by kernel_rfl) (by kernel_rfl) (by kernel_rfl) (by kernel_rfl)) ?_
  intro W base args ds p hval hA hsz _
  have hp : Try.f6.params.toList = [24, 29, 48] := rfl
  rw [hp] at hA hsz
  obtain ⟨v0, v1, v2, d0, d1, d2, p0, p1, p2, rfl, rfl, rfl, h0, h1, h2⟩ := trodAll_three hA
  obtain ⟨l0, a0, b0, c0⟩ := arg_ints hsz (j := 0) rfl rfl (hval 0 24 v0 rfl rfl) h0
  obtain ⟨l1, a1⟩ := arg_bb hsz (j := 1) rfl rfl (hval 1 29 v1 rfl rfl) h1
  obtain ⟨row2, m2, rfl, n2, k2⟩ := arg_Msg hsz (j := 2) rfl rfl (hval 2 48 v2 rfl rfl) h2
  exact gateSays_law row2 m2 v0 l0 v1 l1 W k2 a0 a1

theorem gateSays_holds : Rows.GateSaysSaid :=
  OpenClaim.holds_of_wide 6 Try.f6 rfl rfl rfl rfl rfl rfl rfl ⟨rfl, rfl, rfl, rfl, rfl⟩ rfl rfl rfl rfl rfl (by kernel_rfl) Try.func6 (by kernel_rfl)
    (of_decide_eq_true (by kernel_rfl)) (by unfold Func.isWrapper; first | (rw [if_pos (by decide +kernel)]; kernel_rfl) | (rw [if_neg (by decide +kernel)]; exact ⟨rfl, rfl⟩))
    (fun os started H enc _ => gateSays_lifted os started H enc)
#print axioms gateSays_holds

end Go.Proofs.Ytgbhbifdfcfamaa
