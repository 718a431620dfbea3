/- The chapter's example; a tally behind a world. -/
import Derived.Test.YtmhmkaginnddeaaTlT
namespace Go.Proofs.Ytmhmkaginnddeaa
set_option maxRecDepth 100000
open Go.RowKit

theorem at_ext {P : Program} {ops : Array Oper} {rest : List Oper} {a : Act} {Q : Exit → Act → World → Prop} {w : World} {d : Option Tmp} {ty : TypeId} {pos : String} {af : Array Edge} {gd : Option (Nat × Bool)} {x : Operand} {n : Nat} (h : wpList P ops Q (⟨d, .extract x n, ty, pos, af, gd⟩ :: rest) a w) : wpList P ops Q (⟨d, .extract x n, ty, pos, af, gd⟩ :: rest) a w := h
/-! ### Who has voted from a view on, out of a list -/
theorem ofV_ne {L : List VtD} {d : VtD} (hd : d ∈ L) {i : Nat} (hi : d.f = (i : Int)) : ofV L d.k d.w i ≠ none := by
  induction L with
  | nil => cases hd
  | cons e L ih =>
    unfold ofV
    split
    · simp
    · rename_i hn
      rcases List.mem_cons.1 hd with rfl | hd
      · exact absurd ⟨rfl, rfl, hi⟩ hn
      · exact ih hd
theorem from_iff {n : Nat} {L : List VtD} (hL : ∀ d ∈ L, VtOk n d) {v : Int} {i : Nat} : (ofV L).from' v i = true ↔ ∃ d ∈ L, v ≤ d.w ∧ d.f = (i : Int) := by
  unfold Tab.from'
  rw [decide_eq_true_iff]
  constructor
  · rintro ⟨j, _, h2, h3⟩
    have key : ∀ k : Int, ofV L k j i ≠ none → ∃ d ∈ L, v ≤ d.w ∧ d.f = (i : Int) := fun k hk => by
      cases hq : ofV L k j i with
      | none => exact absurd hq hk
      | some x => obtain ⟨d, hd, _, e2, e3, _⟩ := ofV_mem hq; exact ⟨d, hd, by omega, e3⟩
    exact h3.elim (key 4) (key 5)
  · rintro ⟨d, hd, h1, h2⟩
    obtain ⟨hk, hw, _, _⟩ := hL d hd
    have hne := ofV_ne hd h2
    refine ⟨d.w.toNat, by omega, by omega, ?_⟩
    rw [show ((d.w.toNat : Nat) : Int) = d.w from by omega]
    rcases hk with hk | hk <;> rw [hk] at hne
    · exact .inl hne
    · exact .inr hne

/-! ### A tally that was made behind w0 -/
def TalS (w0 w : World) (p : Nat) (t : List Int) (T : Tab) (N : Nat) : Prop := Tal (fun k => w0.heap.size ≤ k ∧ k < w.heap.size) w p t T N
section
variable {w0 w w' : World} {p : Nat} {t : List Int} {T : Tab} {N : Nat}
theorem TalS.ext (h : TalS w0 w p t T N) (he : Ext w w') : TalS w0 w' p t T N := (Tal.ext h he).mono fun _ hk => ⟨hk.1, Nat.lt_of_lt_of_le hk.2 he.size⟩
theorem TalS.from (h : TalS w w' p t T N) (he : Ext w0 w) : TalS w0 w' p t T N := Tal.mono h fun _ hk => ⟨Nat.le_trans he.size hk.1, hk.2⟩
end
theorem newS {w0 w : World} {v : Value} {t : List Int} (h0 : Ints w v t) (ht : StOk t) (he : Ext w0 w) :
    Calls Try.prog 9 #[v] w fun e w' => ∃ p, e = .returned (.pointer (some ⟨p, 0, none⟩)) ∧ TalS w0 w' p t (ofV []) 0 ∧ Ext w w' := by
  refine (TNew_any h0 ht).mono ?_
  rintro e w' ⟨p, rfl, hT, hx⟩
  exact ⟨p, rfl, TalS.from (by rw [ofV_nil]; exact hT) he, hx⟩
/-- One more vote, of a tally out of a list. -/
theorem addS {w0 w : World} {p : Nat} {t : List Int} {L : List VtD} {N : Nat} (h : TalS w0 w p t (ofV L) N) (hN : N ≤ 100000) (he : Ext w0 w) (d : VtD) (hd : d.Fit) {L' : List VtD} (hL : addV t.length L d = L') {q : Bool} (hq : addVok t.length L d = q) :
    Calls Try.prog 26 #[.pointer (some ⟨p, 0, none⟩), .int .i64 d.k, .int .i64 d.w, .int .i64 d.f, .int .i64 d.x] w fun e w' => e = .returned (.bool q) ∧ TalS w0 w' p t (ofV L') (N + 1) ∧ Ext w0 w' := by
  refine (TAdd_any h hN hd.k hd.w hd.f hd.x).mono ?_
  rintro e w' ⟨X', rfl, hT, hU, _⟩
  rw [addOk_V, hq]
  rw [addT_V, hL] at hT
  exact ⟨rfl, hT.mono fun k hk => (hU.sub k hk).elim (fun h => ⟨h.1, Nat.lt_of_lt_of_le h.2 hU.size⟩) fun h => ⟨Nat.le_trans he.size h.1, h.2⟩, hU.mod.after he fun _ hk => hk.1⟩
/-- What is ahead. -/
theorem aheadS {w0 w : World} {p : Nat} {t : List Int} {T : Tab} {N : Nat} {view : Int} (h : TalS w0 w p t T N) (hN : N ≤ 400) {r : Int} (hr : T.aheadOf t view = r) :
    Calls Try.prog 13 #[.pointer (some ⟨p, 0, none⟩), .int .i64 view] w fun e w' => e = .returned (.int .i64 r) ∧ Ext w w' := TAhead_any h (fun _ hk => hk.2) hN hr
/-! ### The example -/
def exL (c : Nat) : List VtD := ([⟨5, 2, 0, 7⟩, ⟨5, 2, 3, 7⟩, ⟨5, 2, 1, 7⟩] : List VtD).take c
theorem ex_ok : StOk [1, 1, 1, 1] := by decide
theorem ex_vt : ∀ d ∈ exL 3, VtOk 4 d := by decide
theorem ex_comm2 : (ofV (exL 2)).commOf [1, 1, 1, 1] = none := by kernel_rfl
theorem ex_comm3 : (ofV (exL 3)).commOf [1, 1, 1, 1] = some 7 := by kernel_rfl
theorem ex_late {j : Nat} (hj : 2 < j) : ¬ (ofV (exL 3)).Ahd [1, 1, 1, 1] j := by
  intro ha
  have h0 : picks ((ofV (exL 3)).from' j) ([1, 1, 1, 1] : List Int).length = [] := List.eq_nil_iff_forall_not_mem.2 fun x hx => by
    obtain ⟨i, _, hp, _⟩ := mem_picks.1 hx
    obtain ⟨d, hd, h1, _⟩ := (from_iff ex_vt).1 hp
    have : ∀ d ∈ exL 3, d.w = 2 := by decide
    have := this d hd
    omega
  unfold Tab.Ahd at ha
  rw [h0] at ha
  revert ha; decide
theorem ex_ahead : (ofV (exL 3)).aheadOf [1, 1, 1, 1] 0 = 2 := Tab.aheadOf_is (m := 2) (by omega) (by omega) (by
  unfold Tab.Ahd
  have h : some3 [1, 1, 1, 1] (picks ((ofV (exL 3)).from' ((2 : Nat) : Int)) ([1, 1, 1, 1] : List Int).length) = some3 [1, 1, 1, 1] (picks (fun i => i != 2) ([1, 1, 1, 1] : List Int).length) := some3_congr fun i hi => by
    have hi4 : i < 4 := hi
    rw [Bool.eq_iff_iff, from_iff ex_vt]
    rcases (show i = 0 ∨ i = 1 ∨ i = 2 ∨ i = 3 by omega) with rfl | rfl | rfl | rfl <;> decide
  rw [h]; decide) fun j _ hj => ex_late hj
theorem ex_ahead2 : (ofV (exL 3)).aheadOf [1, 1, 1, 1] 2 = 2 := Tab.aheadOf_self fun j _ hj => ex_late (by omega)

set_option maxRecDepth 100000 in
set_option maxHeartbeats 6400000 in
theorem tallyAlive_any (w : World) : Calls Try.prog 12 #[] w fun e w' => e = .returned (.bool true) ∧ Ext w w' := by
  refine calls_keep ?_
  have hX := Ext.refl w
  go_enter Try.func12, Try.ntmps12
  go_wp2_with ((first
    | go_big_skip
    | ((with_reducible refine at_lit ?_); refine w_new Try.elI (i64s [1, 1, 1, 1]) rfl rfl rfl (i64s_cells _) rfl (by omega) ?_; intro v6 w1 hx o6; replace o6 : OwnI w.heap.size w1 v6 [1, 1, 1, 1] := o6; replace hX := hX.trans hx; clear hx)
    | (go_at_call 9; refine (newS o6.ints ex_ok hX).mono ?_; rintro e w2 ⟨p, rfl, hT0, hx⟩; replace hX := hX.trans hx; clear hx o6)
    | (go_at_call 26; refine (addS hT3 (by omega) hX ⟨5, 2, 1, 7⟩ ⟨by decide, by decide, by decide, by decide⟩ (L' := exL 3) (by kernel_rfl) (q := true) (by kernel_rfl)).mono ?_; rintro e w6 ⟨rfl, hT4, hX1⟩; replace hX := hX1; clear hX1 hT3)
    | (go_at_call 26; refine (addS hT2 (by omega) hX ⟨5, 2, 3, 8⟩ ⟨by decide, by decide, by decide, by decide⟩ (L' := exL 2) (by kernel_rfl) (q := false) (by kernel_rfl)).mono ?_; rintro e w5 ⟨rfl, hT3, hX1⟩; replace hX := hX1; clear hX1 hT2)
    | (go_at_call 26; refine (addS hT1 (by omega) hX ⟨5, 2, 3, 7⟩ ⟨by decide, by decide, by decide, by decide⟩ (L' := exL 2) (by kernel_rfl) (q := true) (by kernel_rfl)).mono ?_; rintro e w4 ⟨rfl, hT2, hX1⟩; replace hX := hX1; clear hX1 hT1)
    | (go_at_call 26; refine (addS hT0 (by omega) hX ⟨5, 2, 0, 7⟩ ⟨by decide, by decide, by decide, by decide⟩ (L' := exL 1) (by kernel_rfl) (q := true) (by kernel_rfl)).mono ?_; rintro e w3 ⟨rfl, hT1, hX1⟩; replace hX := hX1; clear hX1 hT0)
    | (go_at_call 10; refine (TComm_any hT4 (by omega) ex_comm3).mono ?_; rintro e w7 ⟨he, hx⟩; replace he : e = .returned (.tuple #[.int .i64 7, .bool true]) := he; subst he; replace hT4 := hT4.ext hx; replace hX := hX.trans hx; clear hx)
    | (go_at_call 10; refine (TComm_any hT3 (by omega) ex_comm2).mono ?_; rintro e w7 ⟨he, hx⟩; replace he : e = .returned (.tuple #[.int .i64 0, .bool false]) := he; subst he; replace hT3 := hT3.ext hx; replace hX := hX.trans hx; clear hx)
    | ((with_reducible refine at_ext ?_); refine wpList_runs rfl (runs_extract rfl rfl rfl) ?_; simp only [List.getElem_toArray, List.getElem_cons_succ, List.getElem_cons_zero])
    | fail) <;> (try simp only [Act.put, List.setIfInBounds_toArray, List.set_cons_zero, List.set_cons_succ]))
  go_at_call 13
  have h9 := aheadS (view := 0) hT4 (by omega) ex_ahead
  refine h9.mono ?_
  rintro e w8 ⟨rfl, hx8⟩
  go_wp2_with fail
  have h10 := aheadS (view := 2) (hT4.ext hx8) (by omega) ex_ahead2
  refine h10.mono ?_
  rintro e w9 ⟨rfl, hx9⟩
  go_wp2_with fail
  go_ret
  exact Keep.intro ⟨rfl, hX.trans (hx8.trans hx9)⟩
end Go.Proofs.Ytmhmkaginnddeaa
