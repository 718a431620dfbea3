/- Which value is committed: of the least view. -/
import Derived.Test.YtmhmkaginnddeaaTlD
namespace Go.Proofs.Ytmhmkaginnddeaa
set_option maxRecDepth 100000
open Go.RowKit

theorem Rise.getElem_lt {l : List Int} (h : Rise l) {i j : Nat} (hi : i < l.length) (hj : j < l.length) (hij : i < j) : l[i] < l[j] := List.pairwise_iff_getElem.1 h i j hi hj hij
/-- In a view in which nobody voted nothing has most. -/
theorem most_no {T : Tab} {t : List Int} (ht : StOk t) {k w : Int} (h : ∀ i, T k w i = none) : T.mostOf t k w = none := by
  cases hm : T.mostOf t k w with
  | none => rfl
  | some x =>
    obtain ⟨i, _, hi⟩ := ((Tab.mostOf_iff ht).1 hm).one ht
    rw [h i] at hi; cases hi
theorem commAt_no {T : Tab} {t : List Int} (ht : StOk t) {j : Nat} (h : ∀ i, T 5 j i = none) : T.commAt t j = none := by
  unfold Tab.commAt; rw [most_no ht h]
/-- What is told of a view. -/
def commV : Option Int → Option Int
  | some x => if x = -1 then none else some x
  | none => none
theorem commAt_of {T : Tab} {t : List Int} {j : Nat} {r : Option Int} (h : T.mostOf t 5 j = r) : T.commAt t j = commV r := by
  subst h
  unfold Tab.commAt commV
  cases T.mostOf t 5 j <;> rfl
theorem comm_none {T : Tab} {t : List Int} (h : ∀ j : Nat, j ≤ 1000 → T.commAt t j = none) : T.commOf t = none := by
  unfold Tab.commOf
  rw [List.findSome?_eq_none_iff]
  exact fun j hj => h j (by have := List.mem_range.1 hj; omega)
theorem comm_v {T : Tab} {t : List Int} (ht : StOk t) {N : Nat} {V : List Int} (hV : Vws T N V) {i : Nat} (hno : ∀ j, j < i → T.commAt t (V.getD j 0).toNat = none) {a : Nat} (ha : ∀ hi : i < V.length, (a : Int) < V[i]) : T.commAt t a = none := by
  by_cases hv : ∃ n, T 5 (a : Int) n ≠ none
  · obtain ⟨n, hn⟩ := hv
    obtain ⟨j, hj, he⟩ := List.getElem_of_mem (hV.all _ _ _ hn)
    have hji : j < i := by
      rcases Nat.lt_or_ge j i with h | h
      · exact h
      · exfalso
        have h1 := ha (by omega)
        rcases Nat.lt_or_eq_of_le h with h2 | h2
        · have := hV.rise.getElem_lt (by omega) hj h2; omega
        · subst h2; omega
    have := hno j hji
    rw [getD_at V hj, he] at this
    exact this
  · exact commAt_no ht fun n => by
      cases hq : T 5 (a : Int) n with
      | none => rfl
      | some x => exact absurd ⟨n, by rw [hq]; simp⟩ hv

set_option maxRecDepth 100000 in
set_option maxHeartbeats 3200000 in
theorem TComm_any {X : Nat → Prop} {w : World} {p : Nat} {t : List Int} {T : Tab} {N : Nat} (h0 : Tal X w p t T N) (hN : N ≤ 400) {r0 : Option Int} (hr0 : T.commOf t = r0) :
    Calls Try.prog 10 #[.pointer (some ⟨p, 0, none⟩)] w fun e w' => e = .returned (.tuple #[.int .i64 (r0.getD 0), .bool r0.isSome]) ∧ Ext w w' := by
  refine calls_keep ?_
  have hT := hide_ h0
  have hok := hide_ h0.st
  obtain ⟨sv, g, D, m, hTw0⟩ := h0
  have hTw := hide_ hTw0
  have hV0 := hTw0.vws
  obtain ⟨V, hVe⟩ : ∃ V, vwsOf m = V := ⟨_, rfl⟩
  rw [hVe] at hV0
  have h5 := hide_ (show In64 5 from by unfold In64; omega)
  have hX := Ext.refl w
  rw [← hr0]
  clear hTw0 hr0
  go_enter Try.func10, Try.ntmps10
  go_wp2_with ((first
    | (go_at_call 30; refine (views_any hTw.out hN).mono ?_; rintro e w2 ⟨ua, rfl, oa, hx⟩; rw [hVe] at oa; replace hX := hX.trans hx; clear hx)
    | ((with_reducible refine at_bi ?_); refine i_len _ rfl rfl rfl oa.ints ?_)
    | fail) <;> (try simp only [Act.put, List.setIfInBounds_toArray, List.set_cons_zero, List.set_cons_succ]))
  have hV := hide_ hV0
  have hoa := hide_ oa.ints
  have hX2 := hide_ hX
  have hVl := hide_ (show V.length ≤ 1001 from hV0.len)
  clear oa hV0
  go_loopw [11] (fun u11 wr => ∃ i : Nat, u11 = .int .i64 i ∧ i ≤ V.length ∧ Hid (∀ j : Nat, j < i → T.commAt t (V.getD j 0).toNat = none) ∧ Ext w2 wr) (fun i _ => V.length - (intOf i).toNat)
  case atStart => exact ⟨0, rfl, Nat.zero_le _, (fun j h => absurd h (Nat.not_lt_zero _)), Ext.refl _⟩
  case round =>
    clear hX
    obtain ⟨i, rfl, hi, hno, hX⟩ := hrel
    by_cases hlt0 : i < V.length
    · have hlt := hide_ hlt0
      have hi7 : i ≤ 1001 := by have := hVl.out; omega
      have hfit := hV.out.fit V[i] (List.getElem_mem hlt0)
      obtain ⟨n, hn0⟩ : ∃ n : Nat, V[i] = (n : Int) := ⟨V[i].toNat, by omega⟩
      have hvi := hide_ hn0
      have hn1 := hide_ (show n ≤ 1000 from by omega)
      have hn64 := hide_ (In64.nat (n := n) (by omega))
      obtain ⟨r, hr1⟩ : ∃ r, T.mostOf t 5 n = r := ⟨_, rfl⟩
      have hr := hide_ hr1
      have tl : decide (i < V.length) = true := decide_eq_true hlt0
      have hat := hide_ (commAt_of hr1)
      have hdone := hide_ (show ∀ x, T.commAt t n = some x → T.commOf t = some x from fun x hx => Tab.commOf_first hn1.out hx fun a ha => comm_v hok.out hV.out hno.out fun hl => by
        have : V[i] = (n : Int) := hvi.out
        omega)
      have hmore := hide_ (show T.commAt t n = none → ∀ j : Nat, j < i + 1 → T.commAt t (V.getD j 0).toNat = none from fun e j hj => by
        by_cases hji : j < i
        · exact hno.out j hji
        · have hji' : j = i := by omega
          subst hji'
          have e1 : V.getD j 0 = (n : Int) := (getD_at V hlt0).trans hvi.out
          rw [e1]; simpa using e)
      clear hfit hn0 hr1 hlt0 hno
      cases r with
      | none =>
        have hm := hide_ (hmore.out hat.out)
        go_wp2_with ((first
          | go_big_skip
          | (go_at_call 11; refine (TMost_any (hT.out.ext (hX2.out.trans hX)) hN h5.out hn64.out hr.out).mono ?_; rintro e w3 ⟨rfl, hx⟩; replace hX := hX.trans hx; clear hx)
          | ((with_reducible refine at_idx ?_); refine i_idx _ _ i rfl rfl rfl (hoa.out.ext hX) rfl hlt.out ?_; intro ad had; replace had := had.trans (congrArg (fun z => some (Value.int .i64 z)) hvi.out))
          | (refine wpList_runs rfl (runs_extract rfl rfl rfl) ?_)
          | fail) <;> (try simp only [Act.put, List.setIfInBounds_toArray, List.set_cons_zero, List.set_cons_succ]))
        go_roundw
        case rel => exact ⟨i + 1, by go_num, by have := hlt.out; omega, hm.out, hX⟩
        case measure => have := hlt.out; simp [intOf]; omega
      | some x =>
        cases c1 : (x != -1)
        · have hm := hide_ (hmore.out (hat.out.trans (if_pos (by simpa using c1))))
          go_wp2_with ((first
            | go_big_skip
            | (go_at_call 11; refine (TMost_any (hT.out.ext (hX2.out.trans hX)) hN h5.out hn64.out hr.out).mono ?_; rintro e w3 ⟨rfl, hx⟩; replace hX := hX.trans hx; clear hx)
            | ((with_reducible refine at_idx ?_); refine i_idx _ _ i rfl rfl rfl (hoa.out.ext hX) rfl hlt.out ?_; intro ad had; replace had := had.trans (congrArg (fun z => some (Value.int .i64 z)) hvi.out))
            | (refine wpList_runs rfl (runs_extract rfl rfl rfl) ?_)
            | fail) <;> (try simp only [Act.put, List.setIfInBounds_toArray, List.set_cons_zero, List.set_cons_succ]))
          go_roundw
          case rel => exact ⟨i + 1, by go_num, by have := hlt.out; omega, hm.out, hX⟩
          case measure => have := hlt.out; simp [intOf]; omega
        · have hd := hide_ (hdone.out x (hat.out.trans (if_neg (by simpa using c1))))
          go_wp2_with ((first
            | go_big_skip
            | (go_at_call 11; refine (TMost_any (hT.out.ext (hX2.out.trans hX)) hN h5.out hn64.out hr.out).mono ?_; rintro e w3 ⟨rfl, hx⟩; replace hX := hX.trans hx; clear hx)
            | ((with_reducible refine at_idx ?_); refine i_idx _ _ i rfl rfl rfl (hoa.out.ext hX) rfl hlt.out ?_; intro ad had; replace had := had.trans (congrArg (fun z => some (Value.int .i64 z)) hvi.out))
            | (refine wpList_runs rfl (runs_extract rfl rfl rfl) ?_)
            | fail) <;> (try simp only [Act.put, List.setIfInBounds_toArray, List.set_cons_zero, List.set_cons_succ]))
          go_ret2
          exact Keep.intro ⟨by rw [hd.out]; rfl, hX2.out.trans hX⟩
    · have hfin := hide_ (show T.commOf t = none from comm_none fun a _ => comm_v hok.out hV.out hno.out fun hl => absurd hl hlt0)
      have tl : decide (i < V.length) = false := decide_eq_false hlt0
      clear hlt0 hno
      go_wp2
      go_ret2
      exact Keep.intro ⟨by rw [hfin.out]; rfl, hX2.out.trans hX⟩
end Go.Proofs.Ytmhmkaginnddeaa
