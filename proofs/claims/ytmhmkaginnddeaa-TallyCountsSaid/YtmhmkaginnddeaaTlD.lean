/- For which value more than two thirds voted; which value is committed. -/
import Derived.Test.YtmhmkaginnddeaaTlC3
namespace Go.Proofs.Ytmhmkaginnddeaa
set_option maxRecDepth 100000
open Go.RowKit

def Sp.ints (L : List Int) : Sp := .any (fun v w => Ints w v L) fun _ _ _ h he => h.ext he
theorem picks_i64s (p : Nat → Bool) {n : Nat} (hn : n ≤ 7) : I64s (picks p n) ∧ (picks p n).length * 8 ≤ 140737488351232 :=
  ⟨fun x hx => by have := picks_wf p n x hx; omega, by have := picks_len p n; omega⟩
theorem whoR {X : Nat → Prop} {w : World} {p : Nat} {t : List Int} {T : Tab} {N : Nat} {k v x : Int} (h : Tal X w p t T N) (hN : N ≤ 400) (hk : In64 k) (hv : In64 v) {L : List Int} (hL : T.who t.length k v x = L) :
    Calls Try.prog 23 #[.pointer (some ⟨p, 0, none⟩), .int .i64 k, .int .i64 v, .int .i64 x] w fun e w' => ∃ u, e = .returned u ∧ Ext w w' ∧ (Sp.ints L).p u w' := by
  refine (TWho_any h hN hk hv hL).mono ?_
  rintro e w' ⟨u, rfl, o, hx⟩
  exact ⟨u, rfl, hx, o.ints⟩
theorem mostR {w : World} {sv u : Value} {t L : List Int} (h : Asked w sv u t L) {q : Bool} (hq : most t L = q) : Calls Try.prog 31 #[sv, u] w fun e w' => ∃ z, e = .returned z ∧ Ext w w' ∧ Sp.p (.val (.bool q)) z w' := by
  refine (Most_of h).mono ?_
  rintro e w' ⟨rfl, hx⟩
  exact ⟨_, rfl, hx, by rw [hq]; rfl⟩

set_option maxRecDepth 100000 in
set_option maxHeartbeats 3200000 in
theorem TMost_any {X : Nat → Prop} {w : World} {p : Nat} {t : List Int} {T : Tab} {N : Nat} {k v : Int} (h0 : Tal X w p t T N) (hN : N ≤ 400) (hk0 : In64 k) (hv0 : In64 v) {r : Option Int} (hr0 : T.mostOf t k v = r) :
    Calls Try.prog 11 #[.pointer (some ⟨p, 0, none⟩), .int .i64 k, .int .i64 v] w fun e w' => e = .returned (.tuple #[.int .i64 (r.getD 0), .bool r.isSome]) ∧ Ext w w' := by
  refine calls_keep ?_
  have hT := hide_ h0
  obtain ⟨sv, g, D, m, h⟩ := h0
  have f0 := hide_ h.obj
  have hst := hide_ h.stk
  have hok := hide_ h.st
  have hlen := hide_ h.st.2.1
  have htab := hide_ h.ok
  have hk := hide_ hk0
  have hv := hide_ hv0
  have hr := hide_ hr0
  have hX := Ext.refl w
  obtain ⟨L, hL0⟩ : ∃ L, T.all t.length k v = L := ⟨_, rfl⟩
  have hL := hide_ (show ∀ x, x ∈ L ↔ ∃ i : Nat, i < t.length ∧ T.any k v i = true ∧ x = (i : Int) from by subst hL0; exact fun x => mem_picks)
  have hLl := hide_ (show L.length ≤ 7 from by subst hL0; have := picks_len (T.any k v) t.length; have := h.st.2.1; show (picks _ _).length ≤ 7; omega)
  rw [← hr0]
  clear h hk0 hv0 hr0
  go_enter Try.func11, Try.ntmps11
  go_wp2_with ((first
    | (go_at_call 14; refine (TAll_any (hT.out.ext hX) hN hk.out hv.out hL0).mono ?_; rintro e w2 ⟨ua, rfl, oa, hx⟩; replace hX := hX.trans hx; clear hx)
    | ((with_reducible refine at_bi ?_); refine i_len _ rfl rfl rfl oa.ints ?_)
    | fail) <;> (try simp only [Act.put, List.setIfInBounds_toArray, List.set_cons_zero, List.set_cons_succ]))
  have hoa := hide_ oa.ints
  have hX2 := hide_ hX
  clear oa hL0
  go_loopw [17] (fun u17 wr => ∃ i : Nat, u17 = .int .i64 i ∧ i ≤ L.length ∧ Hid (∀ (j : Nat) (y : Int), j < i → fat (T k v) (L.getD j 0) = some y → ¬ T.Mst t k v y) ∧ Ext w2 wr) (fun i _ => L.length - (intOf i).toNat)
  case atStart => exact ⟨0, rfl, Nat.zero_le _, (fun j y h => absurd h (Nat.not_lt_zero _)), Ext.refl _⟩
  case round =>
    clear hX
    obtain ⟨i, rfl, hi, hno, hX⟩ := hrel
    by_cases hlt0 : i < L.length
    · have hlt := hide_ hlt0
      have hi7 : i ≤ 7 := by have := hLl.out; omega
      obtain ⟨nd, hnd, hany, hli0⟩ := (hL.out L[i]).1 (List.getElem_mem hlt0)
      have hli := hide_ hli0
      obtain ⟨y, hy0⟩ := Option.isSome_iff_exists.1 hany
      have hvote := hide_ (show fat (T k v) (nd : Int) = some y from by rw [fat_nat]; exact hy0)
      have hj := hide_ (In64.nat (n := nd) (by have := hlen.out; omega))
      obtain ⟨q, hq0⟩ : ∃ q, most t (T.who t.length k v y) = q := ⟨_, rfl⟩
      have hq := hide_ hq0
      have hyb := hide_ (htab.out _ _ _ _ hy0).2.2.2
      have tl : decide (i < L.length) = true := decide_eq_true hlt0
      have hdone := hide_ (show q = true → T.mostOf t k v = some y from fun e => (Tab.mostOf_iff hok.out).2 (show most t (T.who t.length k v y) = true from hq0.trans e))
      have hmore := hide_ (show q = false → ∀ (j : Nat) (z : Int), j < i + 1 → fat (T k v) (L.getD j 0) = some z → ¬ T.Mst t k v z from fun e j z hj hz => by
        by_cases hji : j < i
        · exact hno.out j z hji hz
        · obtain rfl : j = i := by omega
          have e1 : L.getD j 0 = (nd : Int) := (getD_at L hlt0).trans hli0
          have hz' : fat (T k v) (nd : Int) = some z := e1 ▸ hz
          have hz2 := hy0.symm.trans ((fat_nat (T k v) nd).symm.trans hz')
          injection hz2 with hz2
          subst hz2
          intro hm
          have hm' : most t (T.who t.length k v y) = true := hm
          rw [hq0, e] at hm'; cases hm')
      have hws := hide_ (picks_i64s (T.has k v y) hlen.out)
      clear hno hnd hany hli0 hy0 hq0 hlt0
      go_wp2_with ((first
        | (go_at_call 17; refine (TVote_any (hT.out.ext (hX2.out.trans hX)) hk.out hv.out hj.out hvote.out).mono ?_; rintro e w3 ⟨rfl, hw3⟩; replace hw3 := hw3.symm; subst hw3)
        | ((with_reducible refine at_idx ?_); refine i_idx _ _ i rfl rfl rfl (hoa.out.ext hX) rfl hlt.out ?_; intro ad had; replace had := had.trans (congrArg (fun z => some (Value.int .i64 z)) hli.out))
        | (refine wpList_runs rfl (runs_extract rfl rfl rfl) ?_)
        | fail) <;> (try simp only [Act.put, List.setIfInBounds_toArray, List.set_cons_zero, List.set_cons_succ]))
      refine wp_region_phx (by kernel_rfl) ?_; intro wd hxd; have F0 := f0.out.ext (hX2.out.trans (hX.trans hxd)); have S0 := hst.out.ext (hX2.out.trans (hX.trans hxd))
      refine Ph.rest 0 10 (by kernel_rfl) ?_
      refine LinL.step (s := (.val (.pointer (some ⟨p, 0, none⟩)))) [(0, none)] rfl (by kernel_rfl) (op_out 0 (.pointer (some ⟨p, 0, none⟩)) rfl (.inl rfl) rfl) ?_
      refine LinL.step (s := (.val (.pointer (some ⟨p, 0, none⟩)))) [(29, some 0)] rfl (by kernel_rfl) (op_runs rfl fun σ w' hx hg => ⟨_, runs_nil (ρ := σ.eval) (w := w') (.tmp 29) rfl hg.1, rfl⟩) ?_
      refine LinL.step (s := (.val (.pointer (some ⟨p, 0, none⟩)))) [(30, some 0)] rfl (by kernel_rfl) (op_runs rfl fun σ w' hx hg => ⟨_, runs_field (ρ := σ.eval) (w := w') Try.stTal (.tmp 30) p 0 rfl hg.1 (by omega), rfl⟩) ?_
      refine LinL.step (s := (.val (sv))) [(31, some 0)] rfl (by kernel_rfl) (op_runs rfl fun σ w' hx hg => ⟨_, runs_fload (ρ := σ.eval) (w := w') (.tmp 31) rfl hg.1 (agg_of (by kernel_rfl) _) (F0.ext hx) rfl, rfl⟩) ?_
      refine LinL.step (s := (.val (.pointer (some ⟨p, 0, none⟩)))) [(0, none)] rfl (by kernel_rfl) (op_out 0 (.pointer (some ⟨p, 0, none⟩)) rfl (.inl rfl) rfl) ?_
      refine LinL.step (s := (.val (.int .i64 k))) [(1, none)] rfl (by kernel_rfl) (op_out 1 (.int .i64 k) rfl (.inl rfl) rfl) ?_
      refine LinL.step (s := (.val (.int .i64 v))) [(2, none)] rfl (by kernel_rfl) (op_out 2 (.int .i64 v) rfl (.inl rfl) rfl) ?_
      refine LinL.step (s := (.val (.int .i64 y))) [(10, none)] rfl (by kernel_rfl) (op_out 10 (.int .i64 y) rfl (.inl rfl) rfl) ?_
      refine LinL.step (s := (Sp.ints (T.who t.length k v y))) [(33, some 3), (34, some 2), (35, some 1), (36, some 0)] rfl (by kernel_rfl) (op_calls 23 #[(.tmp 33), (.tmp 34), (.tmp 35), (.tmp 36)] #[22, 3, 3, 3] (fun σ => #[.pointer (some ⟨p, 0, none⟩), .int .i64 k, .int .i64 v, .int .i64 y]) rfl rfl (fun _ _ => rfl) fun σ w' hx hg => ⟨by have h33 : σ.tmps.getD 33 undef = .pointer (some ⟨p, 0, none⟩) := hg.1; have h34 : σ.tmps.getD 34 undef = .int .i64 k := hg.2.1; have h35 : σ.tmps.getD 35 undef = .int .i64 v := hg.2.2.1; have h36 : σ.tmps.getD 36 undef = .int .i64 y := hg.2.2.2.1; simp only [List.map_toArray, List.map_cons, List.map_nil, Act.eval, h33, h34, h35, h36], whoR (hT.out.ext (hX2.out.trans (hX.trans (hxd.trans hx)))) hN hk.out hv.out rfl⟩) ?_
      refine LinL.step (s := (.val (.bool q))) [(32, some 5), (37, some 0)] rfl (by kernel_rfl) (op_calls 31 #[(.tmp 32), (.tmp 37)] #[24, 24] (fun σ => #[sv, σ.tmps.getD 37 undef]) rfl rfl (fun _ _ => rfl) fun σ w' hx hg => ⟨by have h32 : σ.tmps.getD 32 undef = sv := hg.1; simp only [List.map_toArray, List.map_cons, List.map_nil, Act.eval, h32], mostR ⟨hok.out, S0.ext hx, hg.2.1, hws.out.1, hws.out.2⟩ hq.out⟩) ?_
      intro wN hxN
      simp only [Fin', Sp.ints, List.reverse_cons, List.reverse_nil, List.nil_append, List.cons_append, List.drop_zero, List.take_succ_cons, List.take_zero]
      intro q37 hq37
      simp only [Act.put, List.setIfInBounds_toArray, List.set_cons_zero, List.set_cons_succ]
      replace hX := hX.trans (hxd.trans hxN)
      clear hxd hxN F0 S0
      cases q
      · go_wp2
        go_roundw
        case rel => exact ⟨i + 1, by go_num, by have := hlt.out; omega, hmore.out rfl, hX⟩
        case measure => have := hlt.out; simp [intOf]; omega
      · have hd := hide_ (hdone.out rfl)
        go_wp2
        go_ret2
        exact Keep.intro ⟨by rw [hd.out]; rfl, hX2.out.trans hX⟩
    · have hfin := hide_ (show T.mostOf t k v = none from by
        cases hm : T.mostOf t k v with
        | none => rfl
        | some y =>
          exfalso
          have hM := (Tab.mostOf_iff hok.out).1 hm
          obtain ⟨nd, hnd, hy⟩ := hM.one hok.out
          have hmem : (nd : Int) ∈ L := (hL.out _).2 ⟨nd, hnd, by unfold Tab.any; rw [hy]; rfl, rfl⟩
          obtain ⟨j, hj, he⟩ := List.getElem_of_mem hmem
          exact hno.out j y (by omega) (((getD_at L hj).trans he) ▸ ((fat_nat (T k v) nd).trans hy)) hM)
      have tl : decide (i < L.length) = false := decide_eq_false hlt0
      clear hlt0 hno
      go_wp2
      go_ret2
      exact Keep.intro ⟨by rw [hfin.out]; rfl, hX2.out.trans hX⟩
end Go.Proofs.Ytmhmkaginnddeaa
