/- The document's wishes: one more; one that came. · The document's wishes: one that came. · The document's wishes: a tick. -/
import Derived.Test.YtajkjiegcmpjaaaFeAct
import Derived.Test.YtajkjiegcmpjaaaPk16
import Derived.Deep.Cut
import Derived.Test.YtajkjiegcmpjaaaPk18
namespace Go.Proofs.Ytajkjiegcmpjaaa
set_option maxHeartbeats 3200000
set_option maxRecDepth 100000
open Go.RowKit Go.ChangeShapes Go.WideShapes Go.ChangeAt
theorem Try.stRF : St Try.prog 36 4 [.int .i64 0, .int .i64 0, .slice none 0 0, .slice none 0 0] := St.of (by kernel_rfl) (by kernel_rfl) rfl
def RF (w : World) (me nd : Int) (l : List WtD) (cs : List Value) : Prop := ∃ vn va, cs = [.int .i64 me, .int .i64 nd, vn, va] ∧ Ints w vn (l.map (·.nm)) ∧ Ints w va (l.map (·.ak))
theorem RF.ext {w w' : World} {me nd : Int} {l : List WtD} {cs : List Value} (h : RF w me nd l cs) (he : Ext w w') : RF w' me nd l cs := by
  obtain ⟨vn, va, rfl, h1, h2⟩ := h
  exact ⟨vn, va, rfl, h1.ext he, h2.ext he⟩
def Nw (w w' : World) (old v : Value) : Prop := ∀ q, v.ownBlock = some q → (w.heap.size ≤ q ∧ q < w'.heap.size) ∨ old.ownBlock = some q
def RFn (w w' : World) (me nd : Int) (l : List WtD) (cs cs' : List Value) : Prop := ∃ on oa vn va, cs = [.int .i64 me, .int .i64 nd, on, oa] ∧ cs' = [.int .i64 me, .int .i64 nd, vn, va] ∧ Ints w' vn (l.map (·.nm)) ∧ Ints w' va (l.map (·.ak)) ∧ Nw w w' on vn ∧ Nw w w' oa va
theorem Ints.one' {w : World} {v : Value} {l : List Int} (h : Ints w v l) : v.oneCell' = true := Sl.one' h
structure Two2 (B : Nat) (w : World) (v1 : Value) (l1 : List Int) (v2 : Value) (l2 : List Int) : Prop where
  o1 : OwnI B w v1 l1
  o2 : OwnI B w v2 l2
  ne : ∀ q, v1.ownBlock = some q → ¬ v2.ownBlock = some q
section
variable {B : Nat} {w w' : World} {v1 v2 v1' v2' : Value} {l1 l2 l1' l2' : List Int}
theorem Two2.nil (B : Nat) (w : World) : Two2 B w (.slice none 0 0) [] (.slice none 0 0) [] := ⟨OwnI.nil _ _, OwnI.nil _ _, fun _ h => nomatch h⟩
theorem Two2.ext (h : Two2 B w v1 l1 v2 l2) (he : Ext w w') : Two2 B w' v1 l1 v2 l2 := ⟨h.o1.ext he, h.o2.ext he, h.ne⟩
theorem ownI_mod {F : Nat → Prop} (h : OwnI B w v1 l1) (hm : Mod F w w') (hd : ∀ k, v1.ownBlock = some k → ¬ F k) : OwnI B w' v1 l1 := own_mod h hm hd
theorem ownI_lt2 (h : OwnI B w v1 l1) {k : Nat} (hk : v1.ownBlock = some k) : k < w.heap.size := (own_block_lt (show w.ownsRow B 3 1 v1 (i64s l1).length (i64s l1) from h) hk).2
theorem ownI_ge (h : OwnI B w v1 l1) {k : Nat} (hk : v1.ownBlock = some k) : B ≤ k := (own_block_lt (show w.ownsRow B 3 1 v1 (i64s l1).length (i64s l1) from h) hk).1
theorem Two2.app1 (h : Two2 B w v1 l1 v2 l2) (o : OwnI B w' v1' l1') (hg : w.grownBy w' v1.ownBlock) (hb : v1'.ownBlock = v1.ownBlock ∨ v1'.ownBlock = some w.heap.size) : Two2 B w' v1' l1' v2 l2 :=
  ⟨o, ownI_mod h.o2 (Mod.grown hg) fun k hk e => h.ne k e hk, fun q hq e => by
    rcases hb with hb | hb
    · exact h.ne q (hb ▸ hq) e
    · rw [hb] at hq; injection hq with hq; have := ownI_lt2 h.o2 e; omega⟩
theorem Two2.app2 (h : Two2 B w v1 l1 v2 l2) (o : OwnI B w' v2' l2') (hg : w.grownBy w' v2.ownBlock) (hb : v2'.ownBlock = v2.ownBlock ∨ v2'.ownBlock = some w.heap.size) : Two2 B w' v1 l1 v2' l2' :=
  ⟨ownI_mod h.o1 (Mod.grown hg) fun k hk e => h.ne k hk e, o, fun q hq e => by
    rcases hb with hb | hb
    · exact h.ne q hq (hb ▸ e)
    · rw [hb] at e; injection e with e; have := ownI_lt2 h.o1 hq; omega⟩
end
theorem refWant_any {w : World} {me nd n : Int} {l : List WtD} {cs : List Value} (h0 : RF w me nd l cs) (hI0 : I64 n) (hfew0 : l.length ≤ 32) {q : Bool} (hq0 : Fe.can l n = q) :
    Calls Try.prog 19 #[.agg cs.toArray, .int .i64 n] w fun e w' => ∃ cs' : List Value, e = .returned (.tuple #[.agg cs'.toArray, .bool q]) ∧ RFn w w' me nd (Fe.want l n) cs cs' ∧ Ext w w' := by
  refine z2cz ?_
  obtain ⟨vn, va, rfl, hn0, ha0⟩ := h0
  have hn := hide_ hn0
  have ha := hide_ ha0
  have hone1 := hide_ hn0.one'
  have hone2 := hide_ ha0.one'
  have hX := Ext.refl w
  have hfew := hfew0
  have hI := hide_ hI0
  clear hn0 ha0 hI0
  by_cases hR : NmOk n
  rotate_left
  · have hc : Fe.can l n = false := by unfold Fe.can; rw [decide_eq_false hR]; rfl
    obtain rfl : q = false := hq0.symm.trans hc
    rw [show Fe.want l n = l from by unfold Fe.want; rw [if_neg (by rw [hc]; simp)]]
    have hdec := hide_ (decide_eq_false hR)
    clear hR hq0 hc
    go_enter Try.func19, Try.ntmps19
    go_wp2_with ((first | go_big_skip | (go_at_call 34; refine (Parts_any n hI.out.1 hI.out.2 _).mono ?_; rintro e w3 ⟨rfl, hx⟩; rw [hdec.out]; replace f2 := f2.ext hx; replace f4 := f4.ext hx; replace hX := hX.trans hx; clear hx) | (refine z38z ?_; intro g2 w1 hg2 hx f2; have hg2' := hide_ (show w.heap.size ≤ g2 from hg2); replace hX := hX.trans hx; clear hx) | (refine z3rz ?_; intro g4 w2 hg4 hx f4; have h24 := hide_ (show ¬ g2 = g4 from fun e => by have := f2.lt; omega); replace f2 := f2.ext hx; have hg4' := hide_ (show w.heap.size ≤ g4 from Nat.le_trans hX.size hg4); replace hX := hX.trans hx; clear hx) | refine z11z ?_ | refine z3cz ?_ | ((with_reducible refine at_store ?_); refine w_astore Try.stRF _ _ (us := [.int .i64 me, .int .i64 nd, vn, va]) rfl rfl rfl rfl rfl f4 rfl rfl (by intro u hu; simp at hu; rcases hu with rfl | rfl | rfl | rfl; rfl; rfl; exact hone1.out; exact hone2.out) ?_; intro w9 hm9 f9) | refine z41z ?_ | fail) <;> (try refine z0z ?_))
    have hY := hm9.after hX fun j e => e ▸ hg4'.out
    exact z4dz
  have hdec := hide_ (decide_eq_true hR)
  by_cases hL : 32 ≤ l.length
  · have hc : Fe.can l n = false := by unfold Fe.can; rw [decide_eq_false (show ¬ l.length < 32 by omega)]; simp
    obtain rfl : q = false := hq0.symm.trans hc
    rw [show Fe.want l n = l from by unfold Fe.want; rw [if_neg (by rw [hc]; simp)]]
    have t3 : decide ((32 : Int) ≤ (l.length : Int)) = true := decide_eq_true (by omega)
    clear hR hq0 hc hL
    go_enter Try.func19, Try.ntmps19
    go_wp2_with ((first | go_big_skip | (go_at_call 34; refine (Parts_any n hI.out.1 hI.out.2 _).mono ?_; rintro e w3 ⟨rfl, hx⟩; rw [hdec.out]; replace f2 := f2.ext hx; replace f4 := f4.ext hx; replace hX := hX.trans hx; clear hx) | (refine z38z ?_; intro g2 w1 hg2 hx f2; have hg2' := hide_ (show w.heap.size ≤ g2 from hg2); replace hX := hX.trans hx; clear hx) | (refine z3rz ?_; intro g4 w2 hg4 hx f4; have h24 := hide_ (show ¬ g2 = g4 from fun e => by have := f2.lt; omega); replace f2 := f2.ext hx; have hg4' := hide_ (show w.heap.size ≤ g4 from Nat.le_trans hX.size hg4); replace hX := hX.trans hx; clear hx) | refine z11z ?_ | refine z3cz ?_ | ((with_reducible refine at_store ?_); refine w_astore Try.stRF _ _ (us := [.int .i64 me, .int .i64 nd, vn, va]) rfl rfl rfl rfl rfl f4 rfl rfl (by intro u hu; simp at hu; rcases hu with rfl | rfl | rfl | rfl; rfl; rfl; exact hone1.out; exact hone2.out) ?_; intro w9 hm9 f9) | refine z41z ?_ | ((with_reducible refine at_bi ?_); (try refine w_yes _ _ _ rfl rfl rfl ?_); refine i_len _ rfl rfl rfl (hn.out.ext hX) ?_; rw [List.length_map]) | fail) <;> (try refine z0z ?_))
    have hY := hm9.after hX fun j e => e ▸ hg4'.out
    exact z4dz
  have t3 : decide ((32 : Int) ≤ (l.length : Int)) = false := decide_eq_false (by omega)
  have hL32 : l.length < 32 := by omega
  have hcan := hide_ (show Fe.can l n = !Fe.has l n from by unfold Fe.can; rw [decide_eq_true hR, decide_eq_true hL32]; simp)
  clear hR hL
  go_enter Try.func19, Try.ntmps19
  go_wp2_with ((first | go_big_skip | (go_at_call 34; refine (Parts_any n hI.out.1 hI.out.2 _).mono ?_; rintro e w3 ⟨rfl, hx⟩; rw [hdec.out]; replace f2 := f2.ext hx; replace f4 := f4.ext hx; replace hX := hX.trans hx; clear hx) | (refine z38z ?_; intro g2 w1 hg2 hx f2; have hg2' := hide_ (show w.heap.size ≤ g2 from hg2); replace hX := hX.trans hx; clear hx) | (refine z3rz ?_; intro g4 w2 hg4 hx f4; have h24 := hide_ (show ¬ g2 = g4 from fun e => by have := f2.lt; omega); replace f2 := f2.ext hx; have hg4' := hide_ (show w.heap.size ≤ g4 from Nat.le_trans hX.size hg4); replace hX := hX.trans hx; clear hx) | refine z11z ?_ | refine z41z ?_ | ((with_reducible refine at_bi ?_); (try refine w_yes _ _ _ rfl rfl rfl ?_); refine i_len _ rfl rfl rfl (hn.out.ext hX) ?_; rw [List.length_map]) | fail) <;> (try refine z0z ?_))
  go_loopw [31] (fun i wr => ∃ k : Nat, i = .int .i64 k ∧ k ≤ l.length ∧ Hid (Fe.has (l.take k) n = false) ∧ Ext w wr ∧ Fs wr g2 [.int .i64 me, .int .i64 nd, vn, va] ∧ Fs wr g4 [.int .i64 0, .int .i64 0, .slice none 0 0, .slice none 0 0]) (fun i _ => l.length - (RowKit.intOf i).toNat)
  case atStart => exact ⟨0, rfl, Nat.zero_le _, hide_ (by simp [Fe.has]), hX, f2, f4⟩
  case round =>
    clear hX f2 f4
    obtain ⟨k, rfl, hk, hnt, hX, f2, f4⟩ := hrel
    by_cases hge : l.length ≤ k
    · obtain rfl : k = l.length := by omega
      have t2 : decide (l.length < l.length) = false := by simp
      rw [List.take_length] at hnt
      have hc : Fe.can l n = true := by rw [hcan.out, hnt.out]; rfl
      obtain rfl : q = true := hq0.symm.trans hc
      have hw := hide_ (show Fe.want l n = l ++ [⟨n, 0⟩] from by unfold Fe.want; rw [if_pos hc])
      have hb1 := hide_ (show (([] : List Int).length + (l.map (·.nm)).length) * 8 ≤ 140737488355328 from by simp; omega)
      have hb2 := hide_ (show ((l.map (·.nm)).length + [n].length) * 8 ≤ 140737488355328 from by simp; omega)
      have hb3 := hide_ (show (([] : List Int).length + (l.map (·.ak)).length) * 8 ≤ 140737488355328 from by simp; omega)
      have hb4 := hide_ (show ((l.map (·.ak)).length + [(0 : Int)].length) * 8 ≤ 140737488355328 from by simp; omega)
      clear hge hc hq0
      obtain ⟨wA, hwA⟩ : ∃ wA, wA = wr := ⟨_, rfl⟩
      subst hwA
      have hXA := hide_ hX
      have f2A := hide_ f2
      have f4A := hide_ f4
      have hB := Ext.refl wA
      clear hX f2 f4
      go_upto_region 11 with ((first | refine z11z ?_ | refine z4fz ?_ | (refine z2fz ?_; intro v5 w5 hx5 ho5; have o5 := hide_ ((show OwnI _ w5 v5 [] from ho5).mono hB.size); replace hB := hB.trans hx5; clear ho5 hx5) | ((with_reducible refine at_bi ?_); refine appi _ _ rfl rfl rfl rfl o6.out i7.out hb2.out hB.size ?_; intro v8 w8 o80 hb8 hg8 hl8; have o8 := hide_ o80; replace hB := hB.trans' hb8; clear o6 i7 o80 hb8 hg8 hl8) | ((with_reducible refine at_bi ?_); refine appi _ _ rfl rfl rfl rfl o5.out (hn.out.ext (hXA.out.trans hB)) hb1.out hB.size ?_; intro v6 w6 o60 hb6 hg6 hl6; rw [List.nil_append] at o60; have o6 := hide_ o60; replace hB := hB.trans' hb6; clear o5 o60 hb6 hg6 hl6) | ((with_reducible refine at_lit ?_); refine w_new Try.elI (n := 1) [.int .i64 n] rfl rfl rfl (by simp [Value.cells]) rfl (by omega) ?_; intro v7 w7 hx7 ho7; have i7 := hide_ (show OwnI _ w7 v7 [n] from ho7).ints; replace o6 := hide_ (o6.out.ext hx7); replace hB := hB.trans hx7; clear ho7 hx7) | (refine z4uz ?_; intro w9 hm9 f9) | fail) <;> (try refine z0z ?_))
      have hgA : g2 < wA.heap.size := f2A.out.lt
      have iN := hide_ (show Ints w9 v8 (l.map (·.nm) ++ [n]) from (show OwnI wA.heap.size w9 v8 _ from own_mod_lt o8.out hm9 hgA).ints)
      have f4 := (f4A.out.ext hB).mod hm9 fun e => h24.out e.symm
      have hX := hm9.after (hXA.out.trans hB) fun j e => e ▸ hg2'.out
      have f2 : Fs w9 g2 [.int .i64 me, .int .i64 nd, v8, va] := f9
      have h1iN := hide_ iN.out.one'
      have hniN := hide_ (show ∀ q, v8.ownBlock = some q → ¬ q = g2 ∧ ¬ q = g4 ∧ w.heap.size ≤ q ∧ q < w9.heap.size from fun q hq => by have h1 := ownI_ge o8.out hq; have h2 := f4A.out.lt; have h3 := hXA.out.size; have h4 := ownI_lt2 o8.out hq; have h5 := hm9.size; omega)
      obtain ⟨viN, hviN⟩ : ∃ x, x = v8 := ⟨_, rfl⟩
      obtain ⟨w9a, hw9a⟩ : ∃ x, x = w9 := ⟨_, rfl⟩
      subst hviN
      subst hw9a
      clear hgA hm9 f9 o8 f2A f4A hB hXA
      obtain ⟨wA, hwA⟩ : ∃ wA, wA = w9a := ⟨_, rfl⟩
      subst hwA
      have hXA := hide_ hX
      have f2A := hide_ f2
      have f4A := hide_ f4
      have hB := Ext.refl wA
      clear hX f2 f4
      go_upto_region 12 with ((first | refine z11z ?_ | refine z4fz ?_ | (refine z2fz ?_; intro v5 w5 hx5 ho5; have o5 := hide_ ((show OwnI _ w5 v5 [] from ho5).mono hB.size); replace hB := hB.trans hx5; clear ho5 hx5) | ((with_reducible refine at_bi ?_); refine appi _ _ rfl rfl rfl rfl o6.out i7.out hb4.out hB.size ?_; intro v8 w8 o80 hb8 hg8 hl8; have o8 := hide_ o80; replace hB := hB.trans' hb8; clear o6 i7 o80 hb8 hg8 hl8) | ((with_reducible refine at_bi ?_); refine appi _ _ rfl rfl rfl rfl o5.out (ha.out.ext (hXA.out.trans hB)) hb3.out hB.size ?_; intro v6 w6 o60 hb6 hg6 hl6; rw [List.nil_append] at o60; have o6 := hide_ o60; replace hB := hB.trans' hb6; clear o5 o60 hb6 hg6 hl6) | ((with_reducible refine at_lit ?_); refine w_new Try.elI (n := 1) [.int .i64 0] rfl rfl rfl (by simp [Value.cells]) rfl (by omega) ?_; intro v7 w7 hx7 ho7; have i7 := hide_ (show OwnI _ w7 v7 [0] from ho7).ints; replace o6 := hide_ (o6.out.ext hx7); replace hB := hB.trans hx7; clear ho7 hx7) | (refine z4uz ?_; intro w9 hm9 f9) | fail) <;> (try refine z0z ?_))
      have hgA : g2 < wA.heap.size := f2A.out.lt
      have iK := hide_ (show Ints w9 v8 (l.map (·.ak) ++ [0]) from (show OwnI wA.heap.size w9 v8 _ from own_mod_lt o8.out hm9 hgA).ints)
      have f4 := (f4A.out.ext hB).mod hm9 fun e => h24.out e.symm
      have hX := hm9.after (hXA.out.trans hB) fun j e => e ▸ hg2'.out
      have f2 : Fs w9 g2 [.int .i64 me, .int .i64 nd, viN, v8] := f9
      have h1iK := hide_ iK.out.one'
      have hniK := hide_ (show ∀ q, v8.ownBlock = some q → ¬ q = g2 ∧ ¬ q = g4 ∧ w.heap.size ≤ q ∧ q < w9.heap.size from fun q hq => by have h1 := ownI_ge o8.out hq; have h2 := f4A.out.lt; have h3 := hXA.out.size; have h4 := ownI_lt2 o8.out hq; have h5 := hm9.size; omega)
      have iNb := hide_ (show Ints w9 viN (l.map (·.nm) ++ [n]) from Sl.mod (iN.out.ext hB) hm9 fun q hq e => (hniN.out q hq).1 e)
      clear iN
      have iN := iNb
      clear iNb
      have hnb := hide_ (show ∀ q, viN.ownBlock = some q → ¬ q = g2 ∧ ¬ q = g4 ∧ w.heap.size ≤ q ∧ q < w9.heap.size from fun q hq => by have h1 := hniN.out q hq; have h2 := hB.size; have h3 := hm9.size; omega)
      clear hniN
      have hniN := hnb
      clear hnb
      obtain ⟨viK, hviK⟩ : ∃ x, x = v8 := ⟨_, rfl⟩
      obtain ⟨w9a, hw9a⟩ : ∃ x, x = w9 := ⟨_, rfl⟩
      subst hviK
      subst hw9a
      clear hgA hm9 f9 o8 f2A f4A hB hXA
      go_wp2_with ((first | refine z3cz ?_ | ((with_reducible refine at_store ?_); refine w_astore Try.stRF _ _ (us := [.int .i64 me, .int .i64 nd, viN, viK]) rfl rfl rfl rfl rfl f4 rfl rfl (by intro u hu; simp at hu; rcases hu with rfl | rfl | rfl | rfl; rfl; rfl; exact h1iN.out; exact h1iK.out) ?_; intro w12 hm12 f12) | fail) <;> (try refine z0z ?_))
      have hY := hm12.after hX fun j e => e ▸ hg4'.out
      refine bodyPost_ret (ret_two Try.stRF rfl rfl rfl f12 rfl) rfl (Keep.intro ⟨_, rfl, ?_, hY⟩)
      rw [hw.out]
      have hn9 : Mod (fun j => j = g4) w9a w12 := hm12
      exact ⟨vn, va, viN, viK, rfl, rfl, by rw [List.map_append]; exact Sl.mod iN.out hn9 fun q hq e => (hniN.out q hq).2.1 e, by rw [List.map_append]; exact Sl.mod iK.out hn9 fun q hq e => (hniK.out q hq).2.1 e, fun q hq => .inl ⟨(hniN.out q hq).2.2.1, Nat.lt_of_lt_of_le (hniN.out q hq).2.2.2 hn9.size⟩, fun q hq => .inl ⟨(hniK.out q hq).2.2.1, Nat.lt_of_lt_of_le (hniK.out q hq).2.2.2 hn9.size⟩⟩
    have hlt : k < l.length := by omega
    have t2 : decide (k < l.length) = true := by simpa using hlt
    obtain ⟨d, hd0⟩ : ∃ d, l[k]? = some d := ⟨_, List.getElem?_eq_getElem hlt⟩
    have hd := hide_ (show (l.map (·.nm))[k]? = some d.nm from by rw [List.getElem?_map, hd0]; rfl)
    have hlt' := hide_ hlt
    have hkb : k ≤ 32 := by omega
    cases q1 : (d.nm == n)
    · have hnt2 := hide_ (show Fe.has (l.take (k + 1)) n = false from by rw [Fe.has_take hd0, hnt.out, q1]; rfl)
      clear hge hlt hd0 hnt
      go_wp2_with ((first | ((with_reducible refine at_idx ?_); refine w_iidx _ _ k rfl rfl rfl (hn.out.ext hX) rfl hd.out ?_; intro ad hc) | fail) <;> (try refine z0z ?_))
      go_roundw
      case rel => exact ⟨k + 1, by go_num, hlt'.out, hnt2, hX, f2, f4⟩
      case measure => have := hlt'.out; simp [RowKit.intOf]; omega
    · have hh : Fe.has l n = true := by
        rw [Fe.has_iff]
        have : d.nm = n := by simpa using q1
        exact this ▸ List.mem_map_of_mem (List.mem_of_getElem? hd0)
      have hc : Fe.can l n = false := by rw [hcan.out, hh]; rfl
      obtain rfl : q = false := hq0.symm.trans hc
      have hw := hide_ (show Fe.want l n = l from by unfold Fe.want; rw [if_neg (by rw [hc]; simp)])
      clear hge hlt hd0 hnt hh hc hq0
      go_wp2_with ((first | ((with_reducible refine at_idx ?_); refine w_iidx _ _ k rfl rfl rfl (hn.out.ext hX) rfl hd.out ?_; intro ad hc) | refine z11z ?_ | refine z3cz ?_ | ((with_reducible refine at_store ?_); refine w_astore Try.stRF _ _ (us := [.int .i64 me, .int .i64 nd, vn, va]) rfl rfl rfl rfl rfl f4 rfl rfl (by intro u hu; simp at hu; rcases hu with rfl | rfl | rfl | rfl; rfl; rfl; exact hone1.out; exact hone2.out) ?_; intro w9 hm9 f9) | fail) <;> (try refine z0z ?_))
      have hY := hm9.after hX fun j e => e ▸ hg4'.out
      exact bodyPost_ret (ret_two Try.stRF rfl rfl rfl f9 rfl) rfl (Keep.intro ⟨_, rfl, by rw [hw.out]; exact ⟨vn, va, vn, va, rfl, rfl, hn.out.ext hY, ha.out.ext hY, fun _ h => .inr h, fun _ h => .inr h⟩, hY⟩)
end Go.Proofs.Ytajkjiegcmpjaaa
namespace Go.Proofs.Ytajkjiegcmpjaaa
set_option maxHeartbeats 3200000
set_option maxRecDepth 100000
open Go.RowKit Go.ChangeShapes Go.WideShapes Go.ChangeAt
namespace Fe
theorem got_yes {l : List WtD} {n : Int} {k : Nat} {d : WtD} (hd : l[k]? = some d) (h : (d.nm == n) = false) : got (l.take (k + 1)) n = got (l.take k) n ++ [d] := by
  unfold got
  rw [List.take_add_one, hd, List.filter_append]
  simp [h]
theorem got_off {l : List WtD} {n : Int} {k : Nat} {d : WtD} (hd : l[k]? = some d) (h : (d.nm == n) = true) : got (l.take (k + 1)) n = got (l.take k) n := by
  unfold got
  rw [List.take_add_one, hd, List.filter_append]
  simp [h]
theorem got_le (l : List WtD) (n : Int) (k : Nat) : (got (l.take k) n).length ≤ l.length := Nat.le_trans (List.length_filter_le _ _) (by rw [List.length_take]; omega)
end Fe
theorem refGot_any {w : World} {me nd n : Int} {l : List WtD} {cs : List Value} (h0 : RF w me nd l cs) (hfew0 : l.length ≤ 32) :
    Calls Try.prog 21 #[.agg cs.toArray, .int .i64 n] w fun e w' => ∃ cs' : List Value, e = .returned (.agg cs'.toArray) ∧ RFn w w' me nd (Fe.got l n) cs cs' ∧ Ext w w' := by
  refine z2cz ?_
  obtain ⟨vn, va, rfl, hn0, ha0⟩ := h0
  have hn := hide_ hn0
  have ha := hide_ ha0
  have hone1 := hide_ hn0.one'
  have hone2 := hide_ ha0.one'
  have hX := Ext.refl w
  have hfew := hfew0
  clear hn0 ha0
  have tok1 : True := trivial
  go_enter Try.func21, Try.ntmps21
  go_wp2_with ((first | (refine z38z ?_; intro g2 w1 hg2 hx f2; have hg2' := hide_ (show w.heap.size ≤ g2 from hg2); replace hX := hX.trans hx; clear hx) | (refine z3rz ?_; intro g4 w2 hg4 hx f4; have h24 := hide_ (show ¬ g2 = g4 from fun e => by have := f2.lt; omega); replace f2 := f2.ext hx; have hg4' := hide_ (show w.heap.size ≤ g4 from Nat.le_trans hX.size hg4); replace hX := hX.trans hx; have hB := Ext.refl w2; have hXA := hide_ hX; have f2A := hide_ f2; have f4A := hide_ f4; clear hx hX f2 f4) | (refine z2fz ?_; have _t := tok1; intro v5 w5 hx5 ho5; have o5 := hide_ (show OwnI w2.heap.size w5 v5 [] from (show OwnI _ w5 v5 [] from ho5).mono hB.size); replace hB := hB.trans hx5; clear ho5 hx5 tok1 _t) | (refine z2fz ?_; intro v6 w6 hx6 ho6; have p6 := hide_ (show Two2 w2.heap.size w6 v5 [] v6 [] from ⟨o5.out.ext hx6, (show OwnI _ w6 v6 [] from ho6).mono hB.size, fun q hq e => by have h1 := ownI_lt2 o5.out hq; have h2 := ownI_ge (show OwnI _ w6 v6 [] from ho6) e; omega⟩); replace hB := hB.trans hx6; clear ho6 hx6 o5) | refine z11z ?_ | ((with_reducible refine at_load ?_); (try refine w_yes _ _ _ rfl rfl rfl ?_); refine w_fload _ rfl rfl rfl (f2A.out.ext hB) rfl (agg_of (by kernel_rfl)) ?_) | ((with_reducible refine at_bi ?_); (try refine w_yes _ _ _ rfl rfl rfl ?_); refine i_len _ rfl rfl rfl (hn.out.ext (hXA.out.trans hB)) ?_; rw [List.length_map]) | fail) <;> (try refine z0z ?_))
  go_loopw [5, 6, 14] (fun u5 u6 i wr => ∃ k : Nat, i = .int .i64 k ∧ k ≤ l.length ∧ Two2 w2.heap.size wr u5 ((Fe.got (l.take k) n).map (·.nm)) u6 ((Fe.got (l.take k) n).map (·.ak)) ∧ Ext w2 wr) (fun _ _ i _ => l.length - (RowKit.intOf i).toNat)
  case atStart => exact ⟨0, rfl, Nat.zero_le _, p6.out, hB⟩
  case round =>
    clear hB p6
    obtain ⟨k, rfl, hk, hp, hB⟩ := hrel
    by_cases hge : l.length ≤ k
    · obtain rfl : k = l.length := by omega
      have t2 : decide (l.length < l.length) = false := by simp
      rw [List.take_length] at hp
      obtain ⟨x5, hx5⟩ : ∃ x, x = u5 := ⟨_, rfl⟩
      obtain ⟨x6, hx6⟩ : ∃ x, x = u6 := ⟨_, rfl⟩
      rw [← hx5, ← hx6] at hp
      have i5 := hide_ hp.o1.ints
      have i6 := hide_ hp.o2.ints
      have q5 := hide_ i5.out.one'
      have q6 := hide_ i6.out.one'
      have n5 := hide_ (show ∀ q, x5.ownBlock = some q → ¬ q = g2 ∧ ¬ q = g4 ∧ w.heap.size ≤ q ∧ q < wr.heap.size from fun q hq => by have h1 := ownI_ge hp.o1 hq; have h9 := ownI_lt2 hp.o1 hq; have h2 := f4A.out.lt; have h3 := f2A.out.lt; have h4 := hXA.out.size; omega)
      have n6 := hide_ (show ∀ q, x6.ownBlock = some q → ¬ q = g2 ∧ ¬ q = g4 ∧ w.heap.size ≤ q ∧ q < wr.heap.size from fun q hq => by have h1 := ownI_ge hp.o2 hq; have h9 := ownI_lt2 hp.o2 hq; have h2 := f4A.out.lt; have h3 := f2A.out.lt; have h4 := hXA.out.size; omega)
      have f2 := f2A.out.ext hB
      have f4 := f4A.out.ext hB
      have hX := hXA.out.trans hB
      subst hx5 hx6
      clear hge hp hB
      go_wp2_with ((first | refine z11z ?_ | ((with_reducible refine at_store ?_); refine w_fstore _ _ (u := x5) rfl rfl rfl rfl rfl f2 (by simp) (oneCell_cells q5.out) q5.out (by kernel_rfl) ?_; intro w7 hm7 f7; have s7 := hm7.size; have f2b : Fs w7 g2 [.int .i64 me, .int .i64 nd, x5, va] := f7; replace i5 := hide_ (show Ints w7 x5 _ from Sl.mod i5.out hm7 fun q hq e => (n5.out q hq).1 e); replace i6 := hide_ (show Ints w7 x6 _ from Sl.mod i6.out hm7 fun q hq e => (n6.out q hq).1 e); replace f4 := f4.mod hm7 (fun e => h24.out e.symm); replace hX := hm7.after hX (fun j e => e ▸ hg2'.out); clear f2 f7 hm7) | ((with_reducible refine at_store ?_); refine w_fstore _ _ (u := x6) rfl rfl rfl rfl rfl f2b (by simp) (oneCell_cells q6.out) q6.out (by kernel_rfl) ?_; intro w8 hm8 f8; have s8 := hm8.size; have f2c : Fs w8 g2 [.int .i64 me, .int .i64 nd, x5, x6] := f8; replace i5 := hide_ (show Ints w8 x5 _ from Sl.mod i5.out hm8 fun q hq e => (n5.out q hq).1 e); replace i6 := hide_ (show Ints w8 x6 _ from Sl.mod i6.out hm8 fun q hq e => (n6.out q hq).1 e); replace f4 := f4.mod hm8 (fun e => h24.out e.symm); replace hX := hm8.after hX (fun j e => e ▸ hg2'.out); clear f2b f8 hm8) | ((with_reducible refine at_load ?_); (try refine w_yes _ _ _ rfl rfl rfl ?_); refine w_aload Try.stRF _ rfl rfl rfl f2c rfl ?_) | ((with_reducible refine at_store ?_); refine w_astore Try.stRF _ _ (us := [.int .i64 me, .int .i64 nd, x5, x6]) rfl rfl rfl rfl rfl f4 rfl rfl (by intro u hu; simp at hu; rcases hu with rfl | rfl | rfl | rfl; rfl; rfl; exact q5.out; exact q6.out) ?_; intro w9 hm9 f9) | fail) <;> (try refine z0z ?_))
      have hY := hm9.after hX fun j e => e ▸ hg4'.out
      exact bodyPost_ret (ret_one Try.stRF rfl rfl f9 rfl) rfl (Keep.intro ⟨_, rfl, ⟨vn, va, x5, x6, rfl, rfl, Sl.mod i5.out hm9 fun q hq e => (n5.out q hq).2.1 e, Sl.mod i6.out hm9 fun q hq e => (n6.out q hq).2.1 e, fun q hq => .inl (by have h1 := n5.out q hq; have h2 := hm9.size; omega), fun q hq => .inl (by have h1 := n6.out q hq; have h2 := hm9.size; omega)⟩, hY⟩)
    have hlt : k < l.length := by omega
    have t2 : decide (k < l.length) = true := by simpa using hlt
    obtain ⟨d, hd0⟩ : ∃ d, l[k]? = some d := ⟨_, List.getElem?_eq_getElem hlt⟩
    have hd := hide_ (show (l.map (·.nm))[k]? = some d.nm from by rw [List.getElem?_map, hd0]; rfl)
    have hda := hide_ (show (l.map (·.ak))[k]? = some d.ak from by rw [List.getElem?_map, hd0]; rfl)
    have hlt' := hide_ hlt
    have hkb : k ≤ 32 := by omega
    have hgl := Fe.got_le l n k
    obtain ⟨K, hK0⟩ : ∃ K, Fe.got (l.take k) n = K := ⟨_, rfl⟩
    rw [hK0] at hp hgl
    cases q1 : (d.nm == n)
    · have hnx := hide_ (show Fe.got (l.take (k + 1)) n = K ++ [d] from by rw [Fe.got_yes hd0 q1, hK0])
      have hb1 := hide_ (show ((K.map (·.nm)).length + [d.nm].length) * 8 ≤ 140737488355328 from by simp; omega)
      have hb2 := hide_ (show ((K.map (·.ak)).length + [d.ak].length) * 8 ≤ 140737488355328 from by simp; omega)
      have q2 : (d.nm != n) = true := by simp [bne, q1]
      have hp0 := hide_ hp
      clear hge hlt hd0 hK0 hgl hp
      have tok2 : True := trivial
      go_wp2_with ((first | ((with_reducible refine at_idx ?_); refine w_iidx _ _ k rfl rfl rfl (hn.out.ext (hXA.out.trans hB)) rfl hd.out ?_; have _t := tok2; intro ad hc; clear tok2 _t) | ((with_reducible refine at_bi ?_); refine appi _ _ rfl rfl rfl rfl hp1.out.o2 i9.out hb2.out hB.size ?_; intro v10 w10 o10 hb10 hg10 hl10; have hp2 := hide_ (hp1.out.app2 o10 hg10 hl10); replace hB := hB.trans' hb10; clear hp1 i9 o10 hb10 hg10 hl10) | ((with_reducible refine at_lit ?_); refine w_new Try.elI (n := 1) [.int .i64 d.ak] rfl rfl rfl (by simp [Value.cells]) rfl (by omega) ?_; intro v9 w9 hx9 ho9; have i9 := hide_ (show OwnI _ w9 v9 [d.ak] from ho9).ints; replace hp1 := hide_ (hp1.out.ext hx9); replace hB := hB.trans hx9; clear ho9 hx9) | ((with_reducible refine at_idx ?_); refine w_iidx _ _ k rfl rfl rfl (ha.out.ext (hXA.out.trans hB)) rfl hda.out ?_; intro ad2 hc2) | refine z4fz ?_ | refine z11z ?_ | ((with_reducible refine at_bi ?_); refine appi _ _ rfl rfl rfl rfl hp0.out.o1 i7.out hb1.out hB.size ?_; intro v8 w8 o8 hb8 hg8 hl8; have hp1 := hide_ (hp0.out.app1 o8 hg8 hl8); replace hB := hB.trans' hb8; clear hp0 i7 o8 hb8 hg8 hl8) | ((with_reducible refine at_lit ?_); refine w_new Try.elI (n := 1) [.int .i64 d.nm] rfl rfl rfl (by simp [Value.cells]) rfl (by omega) ?_; intro v7 w7 hx7 ho7; have i7 := hide_ (show OwnI _ w7 v7 [d.nm] from ho7).ints; replace hp0 := hide_ (hp0.out.ext hx7); replace hB := hB.trans hx7; clear ho7 hx7) | fail) <;> (try refine z0z ?_))
      go_roundw
      case rel => exact ⟨k + 1, by go_num, hlt'.out, by rw [hnx.out, List.map_append, List.map_append]; exact hp2.out, hB⟩
      case measure => have := hlt'.out; simp [RowKit.intOf]; omega
    · have hnx := hide_ (show Fe.got (l.take (k + 1)) n = K from by rw [Fe.got_off hd0 q1, hK0])
      have q2 : (d.nm != n) = false := by simp [bne, q1]
      clear hge hlt hd0 hK0 hgl
      go_wp2_with ((first | ((with_reducible refine at_idx ?_); refine w_iidx _ _ k rfl rfl rfl (hn.out.ext (hXA.out.trans hB)) rfl hd.out ?_; intro ad hc) | fail) <;> (try refine z0z ?_))
      go_roundw
      case rel => exact ⟨k + 1, by go_num, hlt'.out, by rw [hnx.out]; exact hp, hB⟩
      case measure => have := hlt'.out; simp [RowKit.intOf]; omega
end Go.Proofs.Ytajkjiegcmpjaaa
namespace Go.Proofs.Ytajkjiegcmpjaaa
set_option maxHeartbeats 3200000
set_option maxRecDepth 100000
open Go.RowKit Go.ChangeShapes Go.WideShapes Go.ChangeAt
namespace Fe
def peersL (me nd : Int) (n : Nat) : List Int := (List.range n).map fun (j : Nat) => (me + ((j : Int) + 1)) % nd
theorem peersL_len (me nd : Int) (n : Nat) : (peersL me nd n).length = n := by simp [peersL]
theorem peersL_succ (me nd : Int) (n : Nat) : peersL me nd (n + 1) = peersL me nd n ++ [(me + ((n : Int) + 1)) % nd] := by
  unfold peersL; rw [List.range_succ, List.map_append]; rfl
theorem peersL_get {me nd : Int} {n j : Nat} (hj : j < n) : (peersL me nd n)[j]? = some ((me + ((j : Int) + 1)) % nd) := by
  unfold peersL; rw [List.getElem?_map, List.getElem?_range hj]; rfl
def stA (nd : Int) (l : List WtD) (k : Nat) : List Int := (if nd ≤ 1 then l else mid l (min k 8)).map (·.ak)
theorem stA_zero (nd : Int) (l : List WtD) : stA nd l 0 = l.map (·.ak) := by
  unfold stA; split
  · rfl
  · rw [Nat.zero_min, mid_zero]
theorem stA_end (nd : Int) (l : List WtD) : stA nd l l.length = (tick nd l).map (·.ak) := by
  unfold stA; split
  · next h => unfold tick; rw [if_pos h]
  · next h => rw [mid_tick h]
theorem stA_get {nd : Int} {l : List WtD} {k : Nat} {d : WtD} (h : l[k]? = some d) (hk : k < 8) : (stA nd l k)[k]? = some d.ak := by
  unfold stA
  split
  · rw [List.getElem?_map, h]; rfl
  · rw [Nat.min_eq_left (by omega), List.getElem?_map, mid_at h]; rfl
theorem stA_set {nd : Int} {l : List WtD} {k : Nat} {d : WtD} (h : l[k]? = some d) (hk : k < 8) (hn : ¬ nd ≤ 1) : (stA nd l k).set k (d.ak + 1) = stA nd l (k + 1) := by
  unfold stA
  rw [if_neg hn, if_neg hn, Nat.min_eq_left (by omega), Nat.min_eq_left (by omega), ← mid_succ h, List.map_set]
  rfl
theorem stA_stay {nd : Int} {l : List WtD} {k : Nat} (h : nd ≤ 1 ∨ 8 ≤ k) : stA nd l (k + 1) = stA nd l k := by
  unfold stA
  split
  · rfl
  · next hn => rw [Nat.min_eq_right (by omega), Nat.min_eq_right (by omega)]
theorem asks_step {me nd : Int} {l : List WtD} {k : Nat} {d : WtD} (h : l[k]? = some d) (hk : k < 8) (hn : ¬ nd ≤ 1) : asks me nd (l.take (k + 1)) = asks me nd (l.take k) ++ [ask1 me nd d] := by
  unfold asks
  rw [if_neg hn, if_neg hn, List.take_take, List.take_take, Nat.min_eq_right (by omega), Nat.min_eq_right (by omega), List.take_add_one, h]
  simp
theorem asks_stay {me nd : Int} {l : List WtD} {k : Nat} (h : nd ≤ 1 ∨ 8 ≤ k) : asks me nd (l.take (k + 1)) = asks me nd (l.take k) := by
  unfold asks
  split
  · rfl
  · next hn => rw [List.take_take, List.take_take, Nat.min_eq_left (by omega), Nat.min_eq_left (by omega)]
end Fe
theorem runs_leniT {o : Oper} {ρ : Operand → Value} {w : World} {v : Value} {l : List Int} (x : Operand) (ho : o.op = .call { callee := .builtin .len, args := #[x], argTypes := #[24] }) (hv : ρ x = v) (h : Ints w v l) {n : Nat} (hl : l.length = n) : Runs Try.prog o ρ w (.int .i64 (n : Nat)) := by
  subst hl
  have := runs_len Try.elI x ho hv h
  rw [i64s_length] at this; exact this
theorem w_oidxI {ops : Array Oper} {rest : List Oper} {o : Oper} {a : Act} {Q : Exit → Act → World → Prop} {w : World} (x y : Operand) {base : Nat} {v : Value} {l : List Int} {i : Nat} {n : Int} (hgd : o.guard = none) (ho : o.op = .indexAddr 24 x y) (hv : a.eval x = v) (hown : OwnI base w v l) (hy : a.eval y = .int .i64 i) (hi : l[i]? = some n)
    (k : ∀ g, v.ownBlock = some g → w.cell? ⟨g, i, none⟩ = some (.int .i64 n) → wpList Try.prog ops Q rest (a.put o.dst (.pointer (some ⟨g, i, none⟩))) w) : wpList Try.prog ops Q (o :: rest) a w := by
  have hl := (List.getElem?_eq_some_iff.1 hi).1
  have he := (List.getElem?_eq_some_iff.1 hi).2
  have hl' : i < (i64s l).length := by rw [i64s_length]; exact hl
  obtain ⟨g, cap, hv', hb, hg, hc, hf, _⟩ := own_at (show w.ownsRow base 3 1 v (i64s l).length (i64s l) from hown) hl'
  exact wpList_runs hgd (runs_oidx Try.elI x y ho hv hv' hy hl') (k g (by rw [hv']; rfl) (by rw [hc]; simp [i64s, he]))
theorem w_ostoreI {ops : Array Oper} {rest : List Oper} {o : Oper} {a : Act} {Q : Exit → Act → World → Prop} {w : World} (x y : Operand) {base : Nat} {v : Value} {l : List Int} {g i : Nat} {n : Int} (hgd : o.guard = none) (ho : o.op = .store 3 x y) (hd : o.dst = none) (hx : a.eval x = .pointer (some ⟨g, i, none⟩)) (hy : a.eval y = .int .i64 n)
    (hown : OwnI base w v l) (hg : v.ownBlock = some g) (hi : i < l.length)
    (k : ∀ w', Mod (fun k => k = g) w w' → OwnI base w' v (l.set i n) → wpList Try.prog ops Q rest a w') : wpList Try.prog ops Q (o :: rest) a w := by
  obtain ⟨g', cap, hv', hb, hgs, hc, hf, hset⟩ := own_at (show w.ownsRow base 3 1 v (i64s l).length (i64s l) from hown) (i := i) (by rw [i64s_length]; exact hi)
  obtain rfl : g' = g := by rw [hv'] at hg; simpa [Value.ownBlock] using hg
  obtain ⟨i0, hi0, _, hsz, _⟩ := Try.elI.info
  refine wpList_plain hgd fun K hK => ?_
  have hr := run_store_one (P := Try.prog) hi0 hsz (u := .int .i64 n) rfl rfl hc hf
  have hs := hset (.int .i64 n)
  rw [show (i64s l).set i (.int .i64 n) = i64s (l.set i n) from by simp [i64s, List.map_set]] at hs
  have hk := hK _ _ (k _ (Mod.setCell w ⟨g', i, none⟩ _) hs)
  unfold Oper.wp execOp
  exact z45z
theorem refTick_any {w : World} {me nd : Int} {l : List WtD} {b : Nat} {cs : List Value} (h0 : RF w me nd l cs) (hok : Fe.Ok b l) (hb : b ≤ 1000000) (hnd0 : 1 ≤ nd ∧ nd ≤ 7) (hme0 : 0 ≤ me ∧ me < nd) :
    Calls Try.prog 22 #[.agg cs.toArray] w fun e w' => ∃ (cs' : List Value) (u : Value), e = .returned (.tuple #[.agg cs'.toArray, u]) ∧ RFn w w' me nd (Fe.tick nd l) cs cs' ∧ RowN (fun q => w.heap.size ≤ q) w' 59 14 u ((Fe.asks me nd l).map (askR me)) ∧ Ext w w' := by
  refine z2cz ?_
  have hfew0 := hok.few
  obtain ⟨vn, va, rfl, hn0, ha0⟩ := h0
  have hn := hide_ hn0
  have ha := hide_ ha0
  have hone1 := hide_ hn0.one'
  have hone2 := hide_ ha0.one'
  have hX := Ext.refl w
  have hfew := hfew0
  have haks := hide_ hok.ak
  have hnd := hide_ hnd0
  have hme := hide_ hme0
  have hb' := hide_ hb
  obtain ⟨N, hN⟩ : ∃ N : Nat, nd = (N : Int) + 1 := ⟨(nd - 1).toNat, by omega⟩
  have hNe := hide_ hN
  have hN6 : N ≤ 6 := by omega
  clear hn0 ha0 hok hb hnd0 hme0
  go_enter Try.func22, Try.ntmps22
  go_wp2_with ((first | (refine z38z ?_; intro g1 w1 hg1 hx f1; have hg1' := hide_ (show w.heap.size ≤ g1 from hg1); replace hX := hX.trans hx; clear hx) | (refine z3rz ?_; intro g2 w2 hg2 hx f2; have h12 := hide_ (show ¬ g1 = g2 from fun e => by have := f1.lt; omega); replace f1 := f1.ext hx; have hg2' := hide_ (show w.heap.size ≤ g2 from Nat.le_trans hX.size hg2); have hXA := hide_ (hX.trans hx); have f1A := hide_ f1; have f2A := hide_ f2; have hB := Ext.refl w2; clear hx hX f1 f2) | (refine z2fz ?_; intro v4 w4 hx4 ho4; have o4 := hide_ ((show OwnI _ w4 v4 [] from ho4).mono hB.size); replace hB := hB.trans hx4; clear ho4 hx4) | fail) <;> (try refine z0z ?_))
  go_loopw [4, 5] (fun u4 i wr => ∃ j : Nat, i = .int .i64 ((j : Int) + 1) ∧ j ≤ N ∧ OwnI w2.heap.size wr u4 (Fe.peersL me nd j) ∧ Ext w2 wr) (fun _ i _ => N + 1 - (RowKit.intOf i).toNat)
  case atStart => exact ⟨0, by go_num, Nat.zero_le _, o4.out, hB⟩
  case round =>
    clear hB o4
    obtain ⟨j, rfl, hj, o4, hB⟩ := hrel
    by_cases hge : N ≤ j
    rotate_left
    · have hlt : j < N := by omega
      have t2 : decide ((j : Int) + 1 < nd) = true := decide_eq_true (by omega)
      have hw1 : wrap64 (me + ((j : Int) + 1)) = me + ((j : Int) + 1) := by have := hme.out; unfold wrap64; omega
      have hr := hide_ (show (me + ((j : Int) + 1)).tmod nd = (me + ((j : Int) + 1)) % nd from Int.tmod_eq_emod_of_nonneg (by have := hme.out; omega))
      have hnz := hide_ (show nd ≠ 0 from by omega)
      have hsn := hide_ (Fe.peersL_succ me nd j)
      have hbg := hide_ (show ((Fe.peersL me nd j).length + [(me + ((j : Int) + 1)) % nd].length) * 8 ≤ 140737488355328 from by rw [Fe.peersL_len]; simp; omega)
      obtain ⟨r, hr0⟩ : ∃ r, (me + ((j : Int) + 1)) % nd = r := ⟨_, rfl⟩
      rw [hr0] at hr hsn hbg
      have hjb : j ≤ 6 := by omega
      have hlt' := hide_ hlt
      clear hge hlt hr0 hN
      go_wp2_with ((first | refine z11z ?_ | ((with_reducible refine at_load ?_); (try refine w_yes _ _ _ rfl rfl rfl ?_); refine w_fload _ rfl rfl rfl (f1A.out.ext hB) rfl (agg_of (by kernel_rfl)) ?_) | ((with_reducible refine at_bi ?_); refine appi _ _ rfl rfl rfl rfl o4 i7.out hbg.out hB.size ?_; intro v8 w8 o8 hb8 hg8 hl8; rw [← hsn.out] at o8; replace hB := hB.trans' hb8; clear i7 hb8 hg8 hl8 o4) | ((with_reducible refine at_lit ?_); refine w_new Try.elI (n := 1) [.int .i64 ((me + ((j : Int) + 1)).tmod nd)] rfl rfl rfl (by simp [Value.cells]) rfl (by omega) ?_; intro v7 w7 hx7 ho7; have i7 := hide_ (show Ints w7 v7 [r] from hr.out ▸ (show OwnI _ w7 v7 [(me + ((j : Int) + 1)).tmod nd] from ho7).ints); replace o4 := o4.ext hx7; replace hB := hB.trans hx7; clear ho7 hx7) | fail) <;> (try refine z0z ?_))
      go_roundw
      case rel => exact ⟨j + 1, by go_num, hlt'.out, o8, hB⟩
      case measure => have := hlt'.out; simp [RowKit.intOf]; omega
    obtain rfl : j = N := by omega
    have t2 : decide ((j : Int) + 1 < nd) = false := decide_eq_false (by omega)
    obtain ⟨P, hP0⟩ : ∃ P, Fe.peersL me nd j = P := ⟨_, rfl⟩
    have hPe := hide_ hP0
    have hPl := hide_ (show P.length = j from by rw [← hP0, Fe.peersL_len])
    rw [hP0] at o4
    obtain ⟨v4, hv4⟩ : ∃ x, x = u4 := ⟨_, rfl⟩
    subst hv4
    obtain ⟨wY, hwY⟩ : ∃ x, x = wr := ⟨_, rfl⟩
    subst hwY
    have ipY := hide_ o4.ints
    have f1Y := hide_ (f1A.out.ext hB)
    have f2Y := hide_ (f2A.out.ext hB)
    have hXY := hide_ (hXA.out.trans hB)
    have hY2 := hide_ hB.size
    have hgY := hide_ (show g1 < wY.heap.size ∧ g2 < wY.heap.size from ⟨f1Y.out.lt, f2Y.out.lt⟩)
    have hb3 := hide_ (show (([] : List Int).length + (l.map (·.ak)).length) * 8 ≤ 140737488355328 from by simp; omega)
    clear hge hj hP0 o4 hN hB f1A f2A hXA
    go_upto_region 7 with ((first | (refine z22z ?_; intro v6 w6 B hB1 hB2 hx6 hn6; have r6 := hide_ (show RowN (fun q => wY.heap.size ≤ q) w6 _ _ v6 [] from hn6.mono fun q hq => Nat.le_trans hB1 hq.1); have hE := hx6; clear hn6 hB1 hB2 hx6) | refine z11z ?_ | ((with_reducible refine at_load ?_); (try refine w_yes _ _ _ rfl rfl rfl ?_); refine w_fload _ rfl rfl rfl f1Y.out rfl (agg_of (by kernel_rfl)) ?_) | fail) <;> (try refine z0z ?_))
    have hC := Ext.refl w6
    have hE6 := hide_ hE
    clear hE
    go_wp2_with ((first | ((with_reducible refine at_bi ?_); refine appi _ _ rfl rfl rfl rfl o5.out (ha.out.ext (hXY.out.trans (hE6.out.trans hC))) hb3.out hC.size ?_; intro v7 w7 o70 hb7 hg7 hl7; rw [List.nil_append] at o70; have o7 := hide_ o70; replace hC := hC.trans' hb7; clear o5 o70 hb7 hg7 hl7) | (refine z2fz ?_; intro v5 w5 hx5 ho5; have o5 := hide_ ((show OwnI _ w5 v5 [] from ho5).mono hC.size); replace hC := hC.trans hx5; clear ho5 hx5) | refine z11z ?_ | ((with_reducible refine at_load ?_); (try refine w_yes _ _ _ rfl rfl rfl ?_); refine w_fload _ rfl rfl rfl (f1Y.out.ext (hE6.out.trans hC)) rfl (agg_of (by kernel_rfl)) ?_) | ((with_reducible refine at_bi ?_); (try refine w_yes _ _ _ rfl rfl rfl ?_); refine i_len _ rfl rfl rfl (hn.out.ext (hXY.out.trans (hE6.out.trans hC))) ?_; rw [List.length_map]) | fail) <;> (try refine z0z ?_))
    have hE := hE6.out.trans hC
    have hw6 := hide_ hE6.out.size
    have rB := hide_ (show RowN (fun q => wY.heap.size ≤ q ∧ ¬ v7.ownBlock = some q) w7 59 14 v6 ([] : List (List Value)) from ⟨(r6.out.ext hC).own, (r6.out.ext hC).each, fun q hq => ⟨r6.out.inF q hq, fun e => by have h1 := r6.out.lt hq; have h2 := ownI_ge o7.out e; omega⟩⟩)
    have h7g := hide_ (show ∀ q, v7.ownBlock = some q → w6.heap.size ≤ q from fun q hq => ownI_ge o7.out hq)
    clear r6 hE6
    go_loopw [6, 35] (fun u6 i wr => ∃ k : Nat, i = .int .i64 (k : Int) ∧ k ≤ l.length ∧ Ext wY wr ∧ RowN (fun q => wY.heap.size ≤ q ∧ ¬ v7.ownBlock = some q) wr 59 14 u6 ((Fe.asks me nd (l.take k)).map (askR me)) ∧ OwnI w6.heap.size wr v7 (Fe.stA nd l k)) (fun _ i _ => l.length - (RowKit.intOf i).toNat)
    case atStart => exact ⟨0, rfl, Nat.zero_le _, hE, (by rw [show Fe.asks me nd (l.take 0) = [] from by unfold Fe.asks; split <;> simp]; exact rB.out), by rw [Fe.stA_zero]; exact o7.out⟩
    case round =>
      clear hE rB o7 hC
      obtain ⟨k, rfl, hk, hE, hr, ho⟩ := hrel
      by_cases hge : l.length ≤ k
      · obtain rfl : k = l.length := by omega
        have t3 : decide (l.length < l.length) = false := by simp
        rw [List.take_length] at hr
        rw [Fe.stA_end] at ho
        obtain ⟨x6, hx6⟩ : ∃ x, x = u6 := ⟨_, rfl⟩
        subst hx6
        have i7 := hide_ ho.ints
        have q7 := hide_ ho.ints.one'
        have l7 := hide_ (show ∀ q, v7.ownBlock = some q → q < wr.heap.size from fun q hq => ownI_lt2 ho hq)
        have hrr := hide_ hr
        have f1 := f1Y.out.ext hE
        have f2 := f2Y.out.ext hE
        have hX := hXY.out.trans hE
        clear hge hr ho hE
        go_wp2_with ((first | refine z11z ?_ | ((with_reducible refine at_store ?_); refine w_fstore _ _ (u := v7) rfl rfl rfl rfl rfl f1 (by simp) (oneCell_cells q7.out) q7.out (by kernel_rfl) ?_; intro w8 hm8 f8; have s8 := hm8.size; have f1b : Fs w8 g1 [.int .i64 me, .int .i64 nd, vn, v7] := f8; replace i7 := hide_ (show Ints w8 v7 _ from Sl.mod i7.out hm8 fun q hq e => by have h1 := h7g.out q hq; have h2 := hgY.out; have h3 := hw6.out; omega); replace hrr := hide_ (hrr.out.mod hm8 fun q hq e => by have h1 := hq.1; have h2 := hgY.out; omega); replace f2 := f2.mod hm8 (fun e => h12.out e.symm); replace hX := hm8.after hX (fun j e => e ▸ hg1'.out); clear f1 f8 hm8) | ((with_reducible refine at_load ?_); (try refine w_yes _ _ _ rfl rfl rfl ?_); refine w_aload Try.stRF _ rfl rfl rfl f1b rfl ?_) | ((with_reducible refine at_store ?_); refine w_astore Try.stRF _ _ (us := [.int .i64 me, .int .i64 nd, vn, v7]) rfl rfl rfl rfl rfl f2 rfl rfl (by intro u hu; simp at hu; rcases hu with rfl | rfl | rfl | rfl; rfl; rfl; exact hone1.out; exact q7.out) ?_; intro w9 hm9 f9) | fail) <;> (try refine z0z ?_))
        have hYY := hm9.after hX fun j e => e ▸ hg2'.out
        refine bodyPost_ret (ret_two Try.stRF rfl rfl rfl f9 rfl) rfl (Keep.intro ⟨_, _, rfl, ⟨vn, va, vn, v7, rfl, rfl, ?_, ?_, fun _ h => .inr h, fun q hq => .inl (by have h1 := h7g.out q hq; have h2 := hw6.out; have h3 := hXY.out.size; have h4 := l7.out q hq; have h5 := hm9.size; omega)⟩, (hrr.out.mod hm9 fun q hq e => by have h1 := hq.1; have h2 := hgY.out; omega).mono fun q hq => Nat.le_trans hXY.out.size hq.1, hYY⟩)
        · rw [Fe.tick_names]; exact hn.out.ext hYY
        · exact Sl.mod i7.out hm9 fun q hq e => by have h1 := h7g.out q hq; have h2 := hgY.out; have h3 := hw6.out; omega
      have hlt : k < l.length := by omega
      have t3 : decide (k < l.length) = true := by simpa using hlt
      obtain ⟨d, hd0⟩ : ∃ d, l[k]? = some d := ⟨_, List.getElem?_eq_getElem hlt⟩
      have hd := hide_ (show (l.map (·.nm))[k]? = some d.nm from by rw [List.getElem?_map, hd0]; rfl)
      have hlt' := hide_ hlt
      have hkb : k ≤ 32 := by omega
      have hIDX := trivial
      by_cases h8 : k < 8
      rotate_left
      · have t4 : decide ((k : Int) < 8) = false := decide_eq_false (by omega)
        have e1 := hide_ (Fe.asks_stay (me := me) (nd := nd) (l := l) (k := k) (.inr (by omega)))
        have e2 := hide_ (Fe.stA_stay (nd := nd) (l := l) (k := k) (.inr (by omega)))
        clear hge hlt hd0 h8 hIDX
        go_wp2_with ((first | go_big_skip | (refine z4ez ?_; intro ad hc) | fail) <;> (try refine z0z ?_))
        go_roundw
        case rel => exact ⟨k + 1, by go_num, hlt'.out, hE, by rw [e1.out]; exact hr, by rw [e2.out]; exact ho⟩
        case measure => have := hlt'.out; simp [RowKit.intOf]; omega
      have t4 : decide ((k : Int) < 8) = true := decide_eq_true (by omega)
      obtain ⟨z, hz0⟩ : ∃ z : Int, ((j : Nat) : Int) = z := ⟨_, rfl⟩
      have hPz := hide_ (show ((P.length : Nat) : Int) = z from by rw [hPl.out]; exact hz0)
      by_cases hj0 : j = 0
      · have t5 : decide ((0 : Int) < z) = false := decide_eq_false (by omega)
        have e1 := hide_ (Fe.asks_stay (me := me) (nd := nd) (l := l) (k := k) (.inl (by have := hNe.out; omega)))
        have e2 := hide_ (Fe.stA_stay (nd := nd) (l := l) (k := k) (.inl (by have := hNe.out; omega)))
        clear hge hlt hd0 h8 hj0 hIDX hz0
        go_wp2_with ((first | go_big_skip | (refine z4ez ?_; intro ad hc) | ((with_reducible refine at_bi ?_); (try refine w_yes _ _ _ rfl rfl rfl ?_); refine i_len _ rfl rfl rfl (ipY.out.ext hE) ?_; rw [hPz.out]) | fail) <;> (try refine z0z ?_))
        go_roundw
        case rel => exact ⟨k + 1, by go_num, hlt'.out, hE, by rw [e1.out]; exact hr, by rw [e2.out]; exact ho⟩
        case measure => have := hlt'.out; simp [RowKit.intOf]; omega
      have t5z : decide ((0 : Int) < z) = true := decide_eq_true (by omega)
      have hn1 : ¬ nd ≤ 1 := by have := hNe.out; omega
      obtain ⟨N, hNj⟩ : ∃ N, N = j := ⟨_, rfl⟩
      subst hNj
      obtain ⟨AK, hAK⟩ : ∃ AK, Fe.stA nd l k = AK := ⟨_, rfl⟩
      have hae0 := Fe.stA_get (nd := nd) hd0 h8
      rw [hAK] at hae0 ho
      have haq := hide_ hae0
      obtain ⟨hkA0, hae1⟩ := List.getElem?_eq_some_iff.1 hae0
      have hkA := hide_ hkA0
      have hae := hide_ hae1
      have hset := hide_ (show AK.set k (d.ak + 1) = Fe.stA nd l (k + 1) from by rw [← hAK]; exact Fe.stA_set hd0 h8 hn1)
      have hdak := (haks.out d (List.mem_of_getElem? hd0))
      have hak1 : 0 ≤ d.ak := hdak.1
      have hak2 : d.ak ≤ 1000000 := by have := hdak.2; have := hb'.out; omega
      have hmb : 0 ≤ d.ak % (N : Int) ∧ d.ak % (N : Int) < N := ⟨Int.emod_nonneg _ (by omega), Int.emod_lt_of_pos _ (by omega)⟩
      obtain ⟨j, hj0'⟩ : ∃ j : Nat, d.ak % (N : Int) = (j : Int) := ⟨(d.ak % (N : Int)).toNat, by omega⟩
      have hj := hide_ (show d.ak.tmod (N : Int) = (j : Int) from by rw [Int.tmod_eq_emod_of_nonneg hak1, hj0'])
      have hN0 := hide_ (show (N : Int) ≠ 0 from by omega)
      have hjN : j < N := by omega
      have hpe : P[j]? = some (Fe.peer me nd d.ak) := by
        rw [← hPe.out, Fe.peersL_get hjN]
        unfold Fe.peer
        rw [show nd - 1 = (N : Int) from by have := hNe.out; omega, hj0', show me + ((j : Int) + 1) = me + 1 + (j : Int) from by omega]
      obtain ⟨hjP0, hje0⟩ := List.getElem?_eq_some_iff.1 hpe
      have hjP := hide_ hjP0
      have hje := hide_ hje0
      have hsn := hide_ (show (Fe.asks me nd (l.take (k + 1))).map (askR me) = (Fe.asks me nd (l.take k)).map (askR me) ++ [atRow (Fe.peer me nd d.ak) (askM me d.nm)] from by rw [Fe.asks_step hd0 h8 hn1, List.map_append]; rfl)
      have hlen := hide_ (show (((Fe.asks me nd (l.take k)).map (askR me)).length + ([atRow (Fe.peer me nd d.ak) (askM me d.nm)] : List (List Value)).length) * 128 ≤ 140737488355328 from by
        have := Fe.asks_len (me := me) (l := l.take k) hn1
        simp only [List.length_map, this, List.length_singleton]; omega)
      obtain ⟨rowsE, hrE⟩ : ∃ x, (Fe.asks me nd (l.take k)).map (askR me) = x := ⟨_, rfl⟩
      rw [hrE] at hr hsn hlen
      have hr' := hide_ hr
      have ho' := hide_ ho
      have hE' := hide_ hE
      clear hge hlt hd0 h8 hj0 hae0 hae1 hje0 hAK hdak hmb hj0' hpe hrE hjN hr ho hIDX hz0
      go_wp2_with ((first | (refine z4ez ?_; intro ad hc) | ((with_reducible refine at_bi ?_); (try refine w_yes _ _ _ rfl rfl rfl ?_); refine i_len _ rfl rfl rfl (ipY.out.ext hE) ?_; rw [hPz.out]) | fail) <;> (try refine z0z ?_))
      have f1D := hide_ ((f1Y.out.ext hE).ext (Ext.refl _).drew)
      have iP := (ipY.out.ext hE).ext (Ext.refl _).drew
      have iA := (ho'.out.ints).ext (Ext.refl _).drew
      refine wp_region_linT 17 (by kernel_rfl) (by kernel_rfl) ?_
      refine LinR.step (s := (.val (u6))) [(6, none)] rfl (by kernel_rfl) (op_out 6 (u6) rfl (.inl rfl) rfl) ?_
      refine LinR.step (s := (.val (v4))) [(4, none)] rfl (by kernel_rfl) (op_out 4 (v4) rfl (.inl rfl) rfl) ?_
      refine LinR.step (s := (.val (v7))) [(7, none)] rfl (by kernel_rfl) (op_out 7 (v7) rfl (.inl rfl) rfl) ?_
      refine LinR.step (s := (.val (.int .i64 (k : Nat)))) [(8, none)] rfl (by kernel_rfl) (op_out 8 (.int .i64 (k : Nat)) rfl (.inl rfl) rfl) ?_
      refine LinR.step (s := (Sp.ptr (.int .i64 (d.ak)))) [(49, some 1), (50, some 0)] rfl (by kernel_rfl) (op_runs rfl fun σ w' hx hg => rptri (ρ := σ.eval) (w := w') (.tmp 49) (.tmp 50) rfl hg.1 (iA.ext hx) k hg.2.1 hkA.out hae.out) ?_
      refine LinR.step (s := (.val (.int .i64 (d.ak : Int)))) [(51, some 0)] rfl (by kernel_rfl) (op_runs rfl fun σ w' hx hg => ⟨_, runs_load (ρ := σ.eval) (w := w') (.tmp 51) rfl Try.underlying3 rfl hg.1, rfl⟩) ?_
      refine LinR.step (s := (.val (v4))) [(4, none)] rfl (by kernel_rfl) (op_out 4 (v4) rfl (.inl rfl) rfl) ?_
      refine LinR.step (s := (.val (.int .i64 (N : Nat)))) [(53, some 0)] rfl (by kernel_rfl) (op_runs rfl fun σ w' hx hg => ⟨_, runs_leniT (ρ := σ.eval) (w := w') (.tmp 53) rfl hg.1 (iP.ext hx) hPl.out, rfl⟩) ?_
      refine LinR.step (s := (.val (.int .i64 (j : Nat)))) [(52, some 2), (54, some 0)] rfl (by kernel_rfl) (op_runs rfl fun σ w' hx hg => ⟨_, runs_tmod (ρ := σ.eval) (w := w') (.tmp 52) (.tmp 54) rfl hg.1 hg.2.1 hN0.out hj.out, rfl⟩) ?_
      refine LinR.step (s := (Sp.ptr (.int .i64 ((Fe.peer me nd d.ak))))) [(48, some 7), (55, some 0)] rfl (by kernel_rfl) (op_runs rfl fun σ w' hx hg => rptri (ρ := σ.eval) (w := w') (.tmp 48) (.tmp 55) rfl hg.1 (iP.ext hx) j hg.2.1 hjP.out hje.out) ?_
      refine LinR.step (s := (.val (.int .i64 ((Fe.peer me nd d.ak) : Int)))) [(56, some 0)] rfl (by kernel_rfl) (op_runs rfl fun σ w' hx hg => ⟨_, runs_load (ρ := σ.eval) (w := w') (.tmp 56) rfl Try.underlying3 rfl hg.1, rfl⟩) ?_
      refine LinR.step (s := (.val (.pointer (some ⟨g1, 0, none⟩)))) [(1, none)] rfl (by kernel_rfl) (op_runs rfl fun σ w' hx hg => ⟨_, runs_field (ρ := σ.eval) (w := w') Try.stRF (.tmp 1) g1 0 rfl hg.1 (by omega), rfl⟩) ?_
      refine LinR.step (s := (.val (.int .i64 me))) [(58, some 0)] rfl (by kernel_rfl) (op_runs rfl fun σ w' hx hg => ⟨_, runs_fload (ρ := σ.eval) (w := w') (.tmp 58) rfl hg.1 (agg_of (by kernel_rfl) _) (f1D.out.ext hx) rfl, rfl⟩) ?_
      refine LinR.step (s := (.val (.int .i64 d.nm))) [(9, none)] rfl (by kernel_rfl) (op_out 9 (.int .i64 d.nm) rfl (.inl rfl) rfl) ?_
      refine LinR.step (s := (.val (.agg #[.int .i64 2, .int .i64 me, .int .i64 0, .int .i64 0, .int .i64 d.nm, .int .i64 0, .int .i64 0, .int .i64 0, .int .i64 0, .int .i64 0, .int .i64 0, .int .i64 0, .slice none 0 0]))) [(59, some 1), (60, some 0)] rfl (by kernel_rfl) (op_runs rfl fun σ w' hx hg => ⟨_, runs_mbuild (ρ := σ.eval) (w := w') [.int .i64 2, .int .i64 me, .int .i64 0, .int .i64 0, .int .i64 d.nm, .int .i64 0, .int .i64 0, .int .i64 0, .int .i64 0, .int .i64 0, .int .i64 0, .int .i64 0, .slice none 0 0] (ps := #[(0, .const (.int .i64 2)), (1, .tmp 59), (4, .tmp 60)]) rfl (by have h59 : σ.tmps.getD 59 undef = .int .i64 me := hg.1; have h60 : σ.tmps.getD 60 undef = .int .i64 d.nm := hg.2.1; simp only [List.map_cons, List.map_nil, Act.eval, h59, h60, mZero, List.foldl_cons, List.foldl_nil, List.set_cons_zero, List.set_cons_succ]) (by have h59 : σ.tmps.getD 59 undef = .int .i64 me := hg.1; have h60 : σ.tmps.getD 60 undef = .int .i64 d.nm := hg.2.1; intro p hp; simp at hp; rcases hp with rfl | rfl | rfl; exact ⟨by decide, rfl⟩; exact ⟨by decide, by show (σ.tmps.getD 59 undef).cells = #[σ.tmps.getD 59 undef]; rw [h59]; exact rfl⟩; exact ⟨by decide, by show (σ.tmps.getD 60 undef).cells = #[σ.tmps.getD 60 undef]; rw [h60]; exact rfl⟩), rfl⟩) ?_
      refine LinR.step (s := (.val (.agg (atRow (Fe.peer me nd d.ak) (askM me d.nm)).toArray))) [(57, some 4), (61, some 0)] rfl (by kernel_rfl) (op_runs rfl fun σ w' hx hg => ⟨_, runs_atbuild (ρ := σ.eval) (w := w') (d := askM me d.nm) (.tmp 57) (.tmp 61) rfl hg.1 hg.2.1, rfl⟩) ?_
      refine LinR.step (s := (Sp.sls 14 [atRow (Fe.peer me nd d.ak) (askM me d.nm)])) [(62, some 0)] rfl (by kernel_rfl) (op_nbuild Try.enAct [atRow (Fe.peer me nd d.ak) (askM me d.nm)] 1 #[(0, .tmp 62)] rfl rfl rfl (by omega) (by simp [atRow_len]) fun σ w' hx hg => by have h62 : σ.tmps.getD 62 undef = .agg (atRow (Fe.peer me nd d.ak) (askM me d.nm)).toArray := hg.1; simp only [List.map_cons, List.map_nil, Act.eval, h62]; rfl) ?_
      intro wN hxN
      simp only [Fin', Sp.ptr, Sp.sls, List.reverse_cons, List.reverse_nil, List.nil_append, List.cons_append, List.take_succ_cons, List.take_zero]
      intro q51 hq51 q56 hq56 q63 hq63
      simp only [Act.put, List.setIfInBounds_toArray, List.set_cons_zero, List.set_cons_succ, List.drop_succ_cons, List.drop_zero]
      have hxE := (Ext.refl wr).drew.trans hxN
      go_upto_region 13 with (first | (at_builtin; refine w_napp Try.enAct (.tmp 47) (.tmp 63) rfl rfl rfl rfl (hr'.out.ext hxE) hq63 (by simp) (fun y hy => by rw [List.mem_singleton] at hy; subst hy; exact at_one _ _) hlen.out ?_; intro v7b w7b hm7 hr7) | fail)
      have hE7 := hide_ (hm7.after (hE'.out.trans hxE) fun q hq => hq.1)
      have ho7 := hide_ (ownI_mod (ho'.out.ext hxE) hm7 fun q hq g => g.2 hq)
      have hr7' := hide_ (show RowN (fun q => wY.heap.size ≤ q ∧ ¬ v7.ownBlock = some q) w7b 59 14 v7b _ from hr7.mono fun q hq => hq.elim id fun h => ⟨Nat.le_trans (hE'.out.trans hxE).size h.1, fun e => by have := ownI_lt2 (ho'.out.ext hxE) e; omega⟩)
      clear hm7 hr7 hxE hxN iA iP f1D hr' ho' hE'
      go_wp2_with ((first | ((with_reducible refine at_idx ?_); refine w_oidxI _ _ (i := k) rfl rfl rfl ho7.out rfl haq.out ?_; intro g7 hg7 hc7) | ((with_reducible refine at_store ?_); refine w_ostoreI _ _ (n := d.ak + 1) rfl rfl rfl rfl rfl ho7.out hg7 hkA.out ?_; intro w8 hm8 o8; rw [hset.out] at o8; have hE8 := hm8.after hE7.out (fun q e => by have h1 := h7g.out g7 hg7; have h2 := hw6.out; have e2 : q = g7 := e; omega); have hr8 := hr7'.out.mod hm8 (fun q hq e => hq.2 (e ▸ hg7))) | fail) <;> (try refine z0z ?_))
      rw [← hsn.out] at hr8
      go_roundw
      case rel => exact ⟨k + 1, by go_num, hlt'.out, hE8, hr8, o8⟩
      case measure => have := hlt'.out; simp [RowKit.intOf]; omega
end Go.Proofs.Ytajkjiegcmpjaaa
