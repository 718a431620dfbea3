/- What the statements about tallies ask, as regions that draw their order ask it. -/
import Derived.Test.YtmhmkaginnddeaaTlU
namespace Go.Proofs.Ytmhmkaginnddeaa
set_option maxRecDepth 100000
open Go.RowKit

theorem aheadR {w0 w : World} {p : Nat} {t : List Int} {T : Tab} {N : Nat} {view : Int} (h : TalS w0 w p t T N) (hN : N ≤ 400) {r : Int} (hr : T.aheadOf t view = r) :
    Calls Try.prog 13 #[.pointer (some ⟨p, 0, none⟩), .int .i64 view] w fun e w' => ∃ z, e = .returned z ∧ Ext w w' ∧ Sp.p (.val (.int .i64 r)) z w' := by
  refine (aheadS h hN hr).mono ?_
  rintro e w' ⟨rfl, hx⟩
  exact ⟨_, rfl, hx, rfl⟩
theorem rmostR {w : World} {sv u : Value} {t L : List Int} (h : Asked w sv u t L) {q : Bool} (hq : most t L = q) : Calls Try.prog 27 #[sv, u] w fun e w' => ∃ z, e = .returned z ∧ Ext w w' ∧ Sp.p (.val (.bool q)) z w' := by
  refine (RefMost_of h).mono ?_
  rintro e w' ⟨rfl, rfl⟩
  exact ⟨_, rfl, Ext.refl _, by rw [hq]; rfl⟩
theorem rsomeR {w : World} {sv u : Value} {t L : List Int} (h : Asked w sv u t L) {q : Bool} (hq : some3 t L = q) : Calls Try.prog 28 #[sv, u] w fun e w' => ∃ z, e = .returned z ∧ Ext w w' ∧ Sp.p (.val (.bool q)) z w' := by
  refine (RefSome_of h).mono ?_
  rintro e w' ⟨rfl, rfl⟩
  exact ⟨_, rfl, Ext.refl _, by rw [hq]; rfl⟩
/-- counted, of votes behind a world. -/
theorem countedS {w0 w : World} {sv u : Value} {t : List Int} {l : List VtD} (h0 : Ints w sv t) (ht : StOk t) (hv0 : Recs 4 VtR w u l) (hlen0 : l.length ≤ 80) (he : Ext w0 w) :
    Calls Try.prog 16 #[sv, u] w fun e w' => ∃ p u', e = .returned (.tuple #[.pointer (some ⟨p, 0, none⟩), .agg #[sv, u'], .bool true]) ∧
      TalS w0 w' p t (ofV (votesOf t.length l)) l.length ∧ Vts w' u' (votesOf t.length l) ∧ Ext w w' := by
  refine (counted_any h0 ht hv0 hlen0).mono ?_
  rintro e w' ⟨p, u', rfl, hT, hu, hx⟩
  exact ⟨p, u', rfl, TalS.from hT he, hu, hx⟩
theorem chk_ok {t : List Int} (h : StOk t) : chk t = 0 := if_pos h
theorem chk_no {t : List Int} (h : ¬ StOk t) : chk t = 31 := if_neg h
theorem checkB {W : World} {v : Value} {l : List Int} (h : Ints W v l) {n : Int} (hn : (chk l : Int) = n) : Calls Try.prog 15 #[v] W fun e w' => e = .returned (.int .i64 n) ∧ Ext W w' := by
  refine (RefCheck_any _ _ _ h).mono ?_
  rintro e w' ⟨rfl, rfl⟩
  exact ⟨by rw [hn], Ext.refl _⟩
end Go.Proofs.Ytmhmkaginnddeaa
