/- NetTakes returns true: what is taken out of a bag is what was at that place, all others stay in their order; what isn't there changes nothing. No condition: any numbers, any place. -/
import Derived.Test.YtkkbpmkeemfppaaNtLa
import Derived.Test.YtkkbpmkeemfppaaArgI
import Derived.Deep.Cut
namespace Go.Proofs.Ytkkbpmkeemfppaa
open Go.RowKit Go.ChangeShapes Go.WideShapes Go.ChangeAt

def Sp.oe (lo : Nat) : Sp := .any (fun v w => OwnI lo w v [] ∧ ∃ ad : Addr, v = .slice (some ad) 0 0) fun _ _ _ h he => ⟨h.1.ext he, h.2⟩
def Sp.ri (l : List Int) : Sp := .any (fun v w => Ints w v l) fun _ _ _ h he => Ints.ext h he
theorem at_getT {l : List Int} {j : Nat} {x : Int} (h : l[j]? = some x) : atB l (j : Int) = true ∧ atV l (j : Int) = x := by
  have hj := (List.getElem?_eq_some_iff.1 h).1
  have h1 : atB l (j : Int) = true := decide_eq_true (by omega)
  refine ⟨h1, ?_⟩
  unfold atV
  rw [h1, if_pos rfl]
  simp [h]
theorem BLenX_any {X F : Nat → Prop} {w : World} {p : Nat} {l : List Int} {z : Int} (h : Bx X F w p l) (hz : (l.length : Int) = z) :
    Calls Try.prog 22 #[.pointer (some ⟨p, 0, none⟩)] w fun e w' => e = .returned (.int .i64 z) ∧ Ext w w' := by
  obtain ⟨c, v, gs, hs, hB⟩ := h
  subst hz
  exact BLen_any hB
section
variable {ops : Array Oper} {a : Act} {w : World} {r : List Sp} {o : Oper} {reads : List (Tmp × Option Nat)} {lo : Nat} {l : List Int}
theorem op_oe (hlo : lo ≤ w.heap.size) (hgd : o.guard = none) (ho : o.op = .buildSlice 33 0 #[]) : opOk Try.prog ops a w r o [] (Sp.oe lo) := by
  intro σ w' hx hg
  rw [if_pos (wanted_none hgd _)]
  have hr := run_buildSlice (P := Try.prog) Try.elI [] #[] rfl (by simp) 0 rfl (by omega) w'
  unfold Oper.wp execOp
  simp only [ho]
  simp only [List.map_toArray, List.map_nil, Sem.run_bind, hr, Result.andThen_ok]
  exact ⟨_, rfl, (Ext.refl _).alloc _, own_mono (own_new (w := w') (e := 3) [] (by simp)) (Nat.le_trans hlo hx.size), _, rfl⟩
theorem op_oeapp (x y : Nat) (hlo : lo ≤ w.heap.size) (hgd : o.guard = none) (ho : o.op = .call { callee := .builtin .append, args := #[.tmp x, .tmp y], argTypes := #[33, 33] })
    (h1 : ∀ (σ : Act) (w' : World), Ext w w' → Given a r σ w' reads → (OwnI lo w' (σ.tmps.getD x undef) [] ∧ ∃ ad : Addr, σ.tmps.getD x undef = .slice (some ad) 0 0)) (h2 : ∀ (σ : Act) (w' : World), Ext w w' → Given a r σ w' reads → Ints w' (σ.tmps.getD y undef) l)
    (hb : l.length * 8 ≤ 140737488355328) : opOk Try.prog ops a w r o reads (Sp.oi lo l) := by
  intro σ w' hx hg
  rw [if_pos (wanted_none hgd _)]
  obtain ⟨h11, ad, he⟩ := h1 σ w' hx hg
  have h3 := h2 σ w' hx hg
  rw [he] at h11
  obtain ⟨v', w'', hr, hx', _, _⟩ := run_app_empty Try.elI o.type ad h3 (i64s_one l) (by rw [i64s_length]; exact hb)
  obtain ⟨v2, w2, hr2, ho2, _⟩ := run_appi o.type h11 h3 (by simp; omega) (Nat.le_trans hlo hx.size)
  rw [hr] at hr2
  injection hr2 with e1 e2
  subst e1 e2
  unfold Oper.wp execOp
  simp only [ho, resolve, invoke, builtin, Sem.run_bind, Sem.run_pure, Result.andThen_ok, List.map_toArray, List.map_cons, List.map_nil, Act.eval, he, hr]
  exact ⟨v', rfl, hx', ho2⟩
end
theorem rn_ito {o : Oper} {ρ : Operand → Value} {w : World} {v : Value} {l : List Int} {i : Nat} (x y : Operand) (ho : o.op = .slice 33 x none (some y) none) (hv : ρ x = v) (h : Ints w v l) (hy : ρ y = .int .i64 (i : Int)) (hi : i ≤ l.length) :
    ∃ v', Runs Try.prog o ρ w v' ∧ Sp.p (Sp.ri (l.take i)) v' w := by
  obtain ⟨v', hr, hb⟩ := runs_cut Try.elI x _ _ ho hv h 0 i (.inr ⟨rfl, rfl⟩) (.inl ⟨y, rfl, hy⟩) (Nat.zero_le _) (by rw [i64s_length]; exact hi)
  refine ⟨v', hr, show Sl w v' (i64s (l.take i)) from ?_⟩
  have e : i64s (l.take i) = (i64s l).take i := by unfold i64s; rw [List.map_take]
  rw [e]
  simpa using hb
theorem rn_ifrom {o : Oper} {ρ : Operand → Value} {w : World} {v : Value} {l : List Int} {i : Nat} {z : Int} (x y : Operand) (ho : o.op = .slice 33 x (some y) none none) (hv : ρ x = v) (h : Ints w v l) (hy : ρ y = .int .i64 z) (hz : z = ((i : Nat) : Int)) (hi : i ≤ l.length) :
    ∃ v', Runs Try.prog o ρ w v' ∧ Sp.p (Sp.ri (l.drop i)) v' w := by
  subst hz
  obtain ⟨v', hr, hb⟩ := runs_cut Try.elI x _ _ ho hv h i (i64s l).length (.inl ⟨y, rfl, hy⟩) (.inr ⟨rfl, rfl⟩) (by rw [i64s_length]; exact hi) (Nat.le_refl _)
  refine ⟨v', hr, show Sl w v' (i64s (l.drop i)) from ?_⟩
  have e : i64s (l.drop i) = (i64s l).drop i := by unfold i64s; rw [List.map_drop]
  rw [e]
  simpa using hb
set_option maxRecDepth 100000 in
set_option maxHeartbeats 3200000 in
theorem netTakes_law (v : Value) (l : List Int) (i : Int) (w : World) (hA0 : Ints w v l) : Calls Try.prog 8 #[v, .int .i64 i] w fun e w' => e = .returned (.bool true) ∧ Ext w w' := by
  refine calls_keep ?_
  have hX := Ext.refl w
  have hA := hide_ hA0
  clear hA0
  go_enter Try.func8, Try.ntmps8
  go_upto_region 3 with (first
    | (go_at_call 12; refine (netAlive_any _).mono ?_; rintro e w4 ⟨rfl, hx⟩; replace hX := hX.trans hx; clear hx)
    | fail)
  by_cases hL : 200 < l.length
  · have t1 : decide ((200 : Int) < (l.length : Int)) = true := decide_eq_true (by omega)
    have t2 : decide (200 < l.length) = true := decide_eq_true hL
    clear hL
    go_wp2_with ((first
      | ((with_reducible refine at_bi ?_); (try refine w_yes _ _ _ rfl rfl rfl ?_); refine i_len _ rfl rfl rfl (hA.out.ext hX) ?_)
      | fail) <;> (try simp only [Act.put, List.setIfInBounds_toArray, List.set_cons_zero, List.set_cons_succ]))
    go_ret
    exact Keep.intro ⟨rfl, hX⟩
  have t1 : decide ((200 : Int) < (l.length : Int)) = false := decide_eq_false (by omega)
  have t2 : decide (200 < l.length) = false := decide_eq_false hL
  have hl200 : l.length ≤ 200 := by omega
  clear hL
  go_wp2_with ((first
    | ((with_reducible refine at_bi ?_); (try refine w_yes _ _ _ rfl rfl rfl ?_); refine i_len (.tmp 19) rfl rfl rfl (hA.out.ext hX) ?_)
    | (go_at_call 14; refine (BNew_any).mono ?_; rintro e w4 ⟨p, F, rfl, hB, hx, hF⟩; replace hB := hide_ (show Bg F w4 p (l.take 0) from hB); have hO := hide_ (show Out w F w4 from ⟨hX.trans hx, fun k hk => Nat.le_trans hX.size (hF k hk)⟩); clear hx hF hX)
    | ((with_reducible refine at_bi ?_); (try refine w_yes _ _ _ rfl rfl rfl ?_); refine i_len _ rfl rfl rfl (hA.out.ext hO.out.ext) ?_)
    | fail) <;> (try simp only [Act.put, List.setIfInBounds_toArray, List.set_cons_zero, List.set_cons_succ]))
  go_loopw [25] (fun ix wr => ∃ (k : Nat) (F : Nat → Prop), ix = .int .i64 k ∧ k ≤ l.length ∧ Hid (Bg F wr p (l.take k)) ∧ Hid (Out w F wr)) (fun ix _ => l.length - (RowKit.intOf ix).toNat)
  case atStart => exact ⟨0, F, rfl, Nat.zero_le _, hB, hO⟩
  case round =>
    clear hB hO F
    obtain ⟨k, F, rfl, hk, hB, hO⟩ := hrel
    by_cases hge : l.length ≤ k
    rotate_left
    · have hlt : k < l.length := by omega
      have t3 : decide (k < l.length) = true := decide_eq_true hlt
      have hlt' := hide_ hlt
      obtain ⟨x, hx0⟩ : ∃ x, l[k]? = some x := ⟨_, List.getElem?_eq_getElem hlt⟩
      have hxx := hide_ (show l[k]'hlt'.out = x from (List.getElem?_eq_some_iff.1 hx0).2)
      have hq := hide_ (show decide ((l.take k).length < 4000) = true from decide_eq_true (by simp; omega))
      have hnx := hide_ (show l.take k ++ [x] = l.take (k + 1) from by rw [List.take_add_one, hx0]; rfl)
      have hkb : k < 200 := by omega
      clear hge hlt hx0 hk
      go_wp2_with ((first
        | (go_at_call 15; refine (BPut_any (x := x) hB.out hq.out).mono ?_; rintro e w4 ⟨rfl, hB2, hm⟩; rw [if_pos rfl, hnx.out] at hB2; replace hB := hide_ hB2; clear hB2; replace hO := hide_ (hO.out.upd ⟨hm, fun _ h => .inl h⟩); clear hm)
        | ((with_reducible refine at_idx ?_); refine i_idx _ _ k rfl rfl rfl (hA.out.ext hO.out.ext) rfl hlt'.out ?_; intro ad had; rw [hxx.out] at had)
        | fail) <;> (try simp only [Act.put, List.setIfInBounds_toArray, List.set_cons_zero, List.set_cons_succ]))
      go_roundw
      case rel => exact ⟨k + 1, F, by go_num, hlt'.out, hB, hO⟩
      case measure => have := hlt'.out; simp [RowKit.intOf]; omega
    obtain rfl : k = l.length := by omega
    have t3 : decide (l.length < l.length) = false := by simp
    rw [List.take_length] at hB
    obtain ⟨q, hq⟩ : ∃ q, atB l i = q := ⟨_, rfl⟩
    obtain ⟨z, hz⟩ : ∃ z, atV l i = z := ⟨_, rfl⟩
    have hi0 := hide_ (show q = true → 0 ≤ i ∧ i < l.length from fun h => of_decide_eq_true (hq.trans h))
    have hz0 := hide_ (show q = false → z = 0 from fun h => by rw [← hz]; unfold atV; rw [hq, h]; rfl)
    have hzl := hide_ (show ∀ j : Nat, i = j → ∀ h : j < l.length, l[j] = z from fun j hj h => by
      subst hj
      rw [← hz]; unfold atV; rw [show atB l (j : Int) = true from decide_eq_true (by omega), if_pos rfl]
      simp [List.getElem?_eq_getElem h])
    have u1 := hide_ hq
    have u2 := hide_ hz
    obtain ⟨L2, hL2⟩ : ∃ m, (if q = true then l.eraseIdx i.toNat else l) = m := ⟨_, rfl⟩
    have hL2' := hide_ hL2
    have hLl : L2.length ≤ 200 := by
      rw [← hL2]
      split
      · exact Nat.le_trans (List.length_eraseIdx_le ..) hl200
      · exact hl200
    clear hge hk hq hz hL2
    go_wp2_with ((first
      | (go_at_call 21; refine (BAt_any hB.out u1.out u2.out).mono ?_; rintro e w4 ⟨rfl, F2, hU, c, v8, gs, ⟨hs, hB2⟩, hz⟩; replace hB := hide_ (show Bg F2 w4 p l from ⟨c, v8, gs, hs, hB2⟩); replace hO := hide_ (hO.out.upd hU); clear hB2 hz hU)
      | (go_at_call 17; refine (BTake_any hB.out u1.out u2.out).mono ?_; rintro e w5 ⟨rfl, F3, hU, hB2⟩; rw [hL2'.out] at hB2; replace hO := hide_ (hO.out.upd hU); replace hB := hide_ hB2; clear hB2 hU)
      | ((with_reducible refine at_lit ?_); refine w_new Try.elI (i64s []) rfl rfl rfl (i64s_cells _) rfl (by omega) ?_; intro v1 w1 hx1 o1; replace o1 : OwnI _ w1 v1 (L2.take 0) := o1; have hB3 := hide_ (hB.out.now.ext hx1); have hoff := hide_ (show ∀ k, v1.ownBlock = some k → ¬ F3 k from fun k hk hf => by have h1 := (own_block_lt o1 hk).1; have h2 := hB.out.lt k hf; omega); have hW1 := hide_ hO.out.ext.size; have hsz := hide_ hx1.size; replace hO := hide_ (hO.out.extend hx1); clear hx1 hB)
      | fail) <;> (try simp only [Act.put, List.setIfInBounds_toArray, List.set_cons_zero, List.set_cons_succ]))
    have hW1' : w.heap.size ≤ w5.heap.size := hW1.out
    go_loopw [12, 13] (fun vl ix wr => ∃ (k : Nat) (F : Nat → Prop), ix = .int .i64 k ∧ k ≤ L2.length ∧ OwnI w5.heap.size wr vl (L2.take k) ∧ Hid (∀ j, vl.ownBlock = some j → ¬ F j) ∧ Hid (Bx (fun j => j < w5.heap.size) F wr p L2) ∧ Hid (Out w F wr) ∧ Hid (w5.heap.size ≤ wr.heap.size)) (fun _ ix _ => L2.length - (RowKit.intOf ix).toNat)
    case atStart => exact ⟨0, F3, rfl, Nat.zero_le _, o1, hoff, hB3, hO, hsz⟩
    case round =>
      clear hB3 hO F3 o1 hoff hW1 hsz
      obtain ⟨k, F, rfl, hk, hR, hoff, hB, hO, hsz⟩ := hrel
      obtain ⟨vr, hvr⟩ : ∃ vr, vr = u12 := ⟨_, rfl⟩
      rw [← hvr] at hR hoff
      subst hvr
      replace hR := hide_ hR
      have hBl := hide_ (show (L2.length : Int) = (L2.length : Int) from rfl)
      by_cases hge : L2.length ≤ k
      rotate_left
      · have hlt : k < L2.length := by omega
        have t4 : decide ((k : Int) < (L2.length : Int)) = true := decide_eq_true (by omega)
        have t5 : decide (k < L2.length) = true := decide_eq_true hlt
        have hlt' := hide_ hlt
        have hkb : k < 200 := by omega
        obtain ⟨x, hx0⟩ : ∃ x, L2[k]? = some x := ⟨_, List.getElem?_eq_getElem hlt⟩
        have w1' := hide_ (at_getT hx0).1
        have w2' := hide_ (at_getT hx0).2
        have hroom := hide_ (show ((L2.take k).length + [x].length) * 8 ≤ 140737488355328 from by simp; omega)
        have hnx := hide_ (show L2.take k ++ [x] = L2.take (k + 1) from by rw [List.take_add_one, hx0]; rfl)
        clear hge hlt hx0 hk
        go_wp2_with ((first
          | (go_at_call 22; refine (BLenX_any hB.out hBl.out).mono ?_; rintro e w6 ⟨rfl, hx⟩; replace hB := hide_ (hB.out.ext hx); replace hR := hide_ (hR.out.ext hx); replace hO := hide_ (hO.out.extend hx); replace hsz := hide_ (Nat.le_trans hsz.out hx.size); clear hx)
          | (go_at_call 21; refine (BAt_any hB.out w1'.out w2'.out).mono ?_; rintro e w6 ⟨rfl, F2, hU, c, v8, gs, ⟨hs, hB2⟩, hz⟩; have hRold := hR; replace hsz := hide_ (Nat.le_trans hsz.out hU.size); replace hR := hide_ (show OwnI w5.heap.size w6 vr (L2.take k) from own_mod hR.out hU.mod hoff.out); replace hoff := hide_ (show ∀ j, vr.ownBlock = some j → ¬ F2 j from fun j hj hf => (hU.sub j hf).elim (hoff.out j hj) fun h => by have := (own_block_lt hRold.out hj).2; omega); replace hB := hide_ (show Bx (fun j => j < w5.heap.size) F2 w6 p L2 from ⟨c, v8, gs, hs, hB2⟩); replace hO := hide_ (hO.out.upd hU); clear hB2 hz hU hRold)
          | ((with_reducible refine at_lit ?_); refine w_new Try.elI (i64s [x]) rfl rfl rfl (i64s_cells _) rfl (by omega) ?_; intro v7 w7 hx7 o7; replace o7 : OwnI _ w7 v7 [x] := o7; replace hB := hide_ (hB.out.ext hx7); replace hR := hide_ (hR.out.ext hx7); replace hO := hide_ (hO.out.extend hx7); replace hsz := hide_ (Nat.le_trans hsz.out hx7.size); clear hx7)
          | ((with_reducible refine at_bi ?_); refine appi _ _ rfl rfl rfl rfl hR.out o7.ints hroom.out hsz.out ?_; have hBlt := hide_ hB.out.lt; intro v9 w9 o9 hb9 hg9 hor9; rw [hnx.out] at o9; have hmg := Mod.grown hg9; replace hB := hide_ (hB.out.mod hmg (fun j hj e => hoff.out j e hj) (fun j hj e => by have := (own_block_lt hR.out e).1; omega)); replace hoff := hide_ (show ∀ j, v9.ownBlock = some j → ¬ F2 j from fun j hj hf => hor9.elim (fun e => hoff.out j (e ▸ hj) hf) fun e => by rw [e] at hj; cases hj; have := hBlt.out _ hf; omega); replace hO := hide_ (hO.out.other hmg (fun j hj => Nat.le_trans hW1' (own_block_lt hR.out hj).1)); replace hR := hide_ o9; replace hsz := hide_ (Nat.le_trans hsz.out hb9.size); clear hBlt o9 hb9 hg9 hor9 hmg o7)
          | fail) <;> (try simp only [Act.put, List.setIfInBounds_toArray, List.set_cons_zero, List.set_cons_succ]))
        go_roundw
        case rel => exact ⟨k + 1, F2, by go_num, hlt'.out, hR.out, hoff, hB, hO, hsz⟩
        case measure => have := hlt'.out; simp [RowKit.intOf]; omega
      obtain rfl : k = L2.length := by omega
      have t4 : decide ((L2.length : Int) < (L2.length : Int)) = false := by simp
      have t5 : decide (L2.length < L2.length) = false := by simp
      rw [List.take_length] at hR
      replace hR := hide_ hR.out.ints
      clear hge hk
      cases q
      · have e1 := hz0.out rfl
        subst e1
        obtain rfl : l = L2 := hL2'.out
        go_wp2_with (first
          | go_big_skip
          | (go_at_call 22; refine (BLenX_any hB.out hBl.out).mono ?_; rintro e w6 ⟨rfl, hx⟩; replace hR := hide_ (Ints.ext hR.out hx); replace hO := hide_ (hO.out.extend hx); clear hx)
          | (go_at_call 25; refine (SameInts_any _ _ l _ hR.out (hA.out.ext hO.out.ext)).mono ?_; rintro e w7 ⟨rfl, hx⟩; replace hO := hide_ (hO.out.extend hx); clear hx)
          | fail)
        go_ret
        exact Keep.intro ⟨rfl, hO.out.ext⟩
      · obtain ⟨h1, h2⟩ := hi0.out rfl
        obtain ⟨j, rfl⟩ : ∃ j : Nat, i = j := ⟨i.toNat, by omega⟩
        have hjl : j < l.length := by omega
        obtain rfl : l.eraseIdx j = L2 := hL2'.out
        have hi1 := hide_ (show j ≤ l.length from by omega)
        have hi2 := hide_ (show j + 1 ≤ l.length from by omega)
        have hbt := hide_ (show (l.take j).length * 8 ≤ 140737488355328 from by simp; omega)
        have hroom := hide_ (show ((l.take j).length + (l.drop (j + 1)).length) * 8 ≤ 140737488355328 from by simp; omega)
        have herase := hide_ (show l.take j ++ l.drop (j + 1) = l.eraseIdx j from (List.eraseIdx_eq_take_drop_succ ..).symm)
        have hjl' := hide_ hjl
        have hzz := hide_ (show l[j]'hjl'.out = z from hzl.out j rfl hjl'.out)
        have c1 : (z == z) = true := by simp
        have hj2 : j < 200 := by omega
        clear h1 h2 hjl
        go_upto_region 21 with (first
          | go_big_skip
          | (go_at_call 22; refine (BLenX_any hB.out hBl.out).mono ?_; rintro e w6 ⟨rfl, hx⟩; replace hR := hide_ (Ints.ext hR.out hx); replace hO := hide_ (hO.out.extend hx); clear hx)
          | fail)
        refine wp_region_phx (by kernel_rfl) ?_; intro wd hxd; have K := hA.out.ext (hO.out.ext.trans hxd)
        refine Ph.gate 0 9 (by kernel_rfl) ?_
        refine LinL.step (s := (Sp.oe wd.heap.size)) [] rfl (by kernel_rfl) (op_oe (Nat.le_refl _) rfl rfl) ?_
        refine LinL.step (s := (.val (v))) [(0, none)] rfl (by kernel_rfl) (op_out 0 (v) rfl (.inl rfl) rfl) ?_
        refine LinL.step (s := (.val (.int .i64 (j : Nat)))) [(1, none)] rfl (by kernel_rfl) (op_out 1 (.int .i64 (j : Nat)) rfl (.inl rfl) rfl) ?_
        refine LinL.step (s := (Sp.ri (l.take j))) [(76, some 1), (77, some 0)] rfl (by kernel_rfl) (op_runs rfl fun σ w' hx hg => rn_ito (ρ := σ.eval) (w := w') (.tmp 76) (.tmp 77) rfl hg.1 (K.ext hx) hg.2.1 hi1.out) ?_
        refine LinL.step (s := (Sp.oi wd.heap.size (l.take j))) [(75, some 3), (78, some 0)] rfl (by kernel_rfl) (op_oeapp 75 78 (Nat.le_refl _) rfl rfl (fun σ w' hx hg => hg.1) (fun σ w' hx hg => hg.2.1) hbt.out) ?_
        refine LinL.step (s := (.val (v))) [(0, none)] rfl (by kernel_rfl) (op_out 0 (v) rfl (.inl rfl) rfl) ?_
        refine LinL.step (s := (.val (.int .i64 (j : Nat)))) [(1, none)] rfl (by kernel_rfl) (op_out 1 (.int .i64 (j : Nat)) rfl (.inl rfl) rfl) ?_
        refine LinL.step (s := (.val (.int .i64 ((j : Int) + 1)))) [(81, some 0)] rfl (by kernel_rfl) (op_runs rfl fun σ w' hx hg => ⟨_, runs_add (ρ := σ.eval) (w := w') (.tmp 81) (.const (.int .i64 1)) (((j : Int) + 1)) (by rfl) (by omega) rfl hg.1 rfl, rfl⟩) ?_
        refine LinL.step (s := (Sp.ri (l.drop (j + 1)))) [(80, some 2), (82, some 0)] rfl (by kernel_rfl) (op_runs rfl fun σ w' hx hg => rn_ifrom (ρ := σ.eval) (w := w') (.tmp 80) (.tmp 82) rfl hg.1 (K.ext hx) hg.2.1 (by omega) hi2.out) ?_
        intro wN hxN
        simp only [Fin', Sp.oe, Sp.oi, Sp.ri, List.reverse_cons, List.reverse_nil, List.nil_append, List.cons_append, List.drop_zero, List.take_succ_cons, List.take_zero]
        intro q75 hq75 q78 hq78 q79 hq79 q83 hq83
        simp only [Act.put, List.setIfInBounds_toArray, List.set_cons_zero, List.set_cons_succ]
        have o79 := hide_ (show OwnI wd.heap.size wN q79 (l.take j) from hq79)
        have r83 := hide_ (show Ints wN q83 (l.drop (j + 1)) from hq83)
        have hs9 := hide_ hxN.size
        refine wpOp_of_list rfl ?_
        refine appi _ _ rfl rfl rfl rfl o79.out r83.out hroom.out hs9.out ?_
        intro v9 w9 o9 hb9 _ _
        rw [herase.out] at o9
        have hZ := hxd.trans (hxN.trans' hb9)
        replace hO := hide_ (hO.out.extend hZ); replace hR := hide_ (hR.out.ext hZ); replace o9 := hide_ o9.ints
        clear hZ hb9 o79 r83 hs9 K hq78
        simp only [Act.put, List.setIfInBounds_toArray]
        show Ph Try.prog _ _ 10 _ _
        refine Ph.rest 10 1 (by kernel_rfl) ?_
        refine LinL.step (s := (.val (v9))) [(84, none)] rfl (by kernel_rfl) (op_out 84 (v9) rfl (.inr rfl) rfl) ?_
        intro wN hxN
        simp only [Fin', List.reverse_cons, List.reverse_nil, List.nil_append, List.drop_zero, List.drop_succ_cons, List.take_succ_cons, List.take_zero]
        simp only [Act.put]
        replace hO := hide_ (hO.out.extend hxN); replace hR := hide_ (hR.out.ext hxN); replace o9 := hide_ (Ints.ext o9.out hxN)
        go_wp2_with ((first
          | go_big_skip
          | (go_at_call 25; refine (SameInts_any _ _ (l.eraseIdx j) _ hR.out o9.out).mono ?_; rintro e w7 ⟨rfl, hx⟩; replace hO := hide_ (hO.out.extend hx); clear hx)
          | ((with_reducible refine at_idx ?_); (try refine w_yes _ _ _ rfl rfl rfl ?_); refine i_idx _ _ j rfl rfl rfl (hA.out.ext hO.out.ext) rfl hjl'.out ?_; intro ad had; rw [hzz.out] at had)
          | fail) <;> (try simp only [Act.put, List.setIfInBounds_toArray, List.set_cons_zero, List.set_cons_succ]))
        go_ret
        exact Keep.intro ⟨rfl, hO.out.ext⟩

set_option maxRecDepth 100000 in
theorem netTakes_lifted (os : Os) (started : os.Started) (H : Type) (enc : TypeId × Value → H) :
    ReturnsInHanded {} Try.checked os 8 .any (Rows.netTakesSpec.pre6 enc Try.prog Try.f8 Rows.netTakesRow.domain false) (Rows.netTakesSpec.post enc Try.prog Try.f8 false true false false) := by
  refine law_lifted (s := Rows.netTakesSpec) (conds := Rows.netTakesRow.domain) Try.func8 (by kernel_rfl) rfl (fun H ds h => by
      rw [show Try.f8.params.size = 2 from rfl] at h
      match ds, h with
      | [d0, d1], _ => rfl) rfl rfl (by decide +kernel) os started H enc
    (ChangeSpec.witness6 (enc := enc) (C := Try.checked) false ⟨#[], #[.slice none 0 0, .int .i64 0], []⟩ 8 (by kernel_rfl) (by kernel_rfl) (by kernel_rfl) (by kernel_rfl)) ?_
  intro W base args ds p hval hA hsz _
  have hp : Try.f8.params.toList = [33, 3] := rfl
  rw [hp] at hA hsz
  obtain ⟨v0, v1, d0, d1, p0, p1, rfl, rfl, rfl, h0, h1⟩ := trodAll_two hA
  obtain ⟨l0, a0, b0, c0⟩ := arg_ints hsz (j := 0) rfl rfl (hval 0 33 v0 rfl rfl) h0
  obtain ⟨a1, rfl, b1, c1⟩ := arg_int (hval 1 3 v1 rfl rfl) h1
  exact netTakes_law v0 l0 a1 W a0

theorem netTakes_holds : Rows.NetTakesSaid :=
  OpenClaim.holds_of_wide 8 Try.f8 rfl rfl rfl rfl rfl rfl rfl ⟨rfl, rfl, rfl, rfl, rfl⟩ rfl rfl rfl rfl rfl (by kernel_rfl) Try.func8 (by kernel_rfl)
    (of_decide_eq_true (by kernel_rfl)) (by unfold Func.isWrapper; first | (rw [if_pos (by decide +kernel)]; kernel_rfl) | (rw [if_neg (by decide +kernel)]; exact ⟨rfl, rfl⟩))
    (fun os started H enc _ => netTakes_lifted os started H enc)
#print axioms netTakes_holds

end Go.Proofs.Ytkkbpmkeemfppaa
