/- The statement JournalBytes in its second form: any record as bytes, and the records with which any bytes begin, are the document's. Condition: what comes in is of bulk at most 1048576 (beyond what any machine has, the records found would be more than a slice can have). -/
import Derived.Test.YtfhecifgpjbeiaaJNames
import Derived.Test.YtfhecifgpjbeiaaJRf3
import Derived.Test.YtfhecifgpjbeiaaArgBU
import Derived.Test.YtfhecifgpjbeiaaLiftU
namespace Go.Proofs.Ytfhecifgpjbeiaa
open Go.RowKit Go.ChangeShapes Go.WideShapes Go.ChangeAt

set_option maxRecDepth 100000 in
set_option maxHeartbeats 1600000 in
theorem journalBytes_law (row : List Value) (r : RecD) (b : Value) (l : List Nat) (W : World) (hr : RecR W row r) (hb : Byt W b l) (hl : ∀ x ∈ l, x < 256) (hlen : l.length ≤ 1048576) :
    Calls Try.prog 4 #[.agg row.toArray, b] W fun e w' => e = .returned (.bool true) ∧ Ext W w' := by
  obtain ⟨⟨u, rfl, hu⟩, hraw⟩ := hr
  replace hraw := hide_ hraw
  refine calls_keep ?_
  go_enter Try.func4, Try.ntmps4
  go_wp2_with (first
    | (refine w_box _ [.int .i64 r.k, .int .i64 r.i, .int .i64 r.v, .int .i64 r.x, u] rfl rfl rfl rfl ?_; intro g2 w1 hg2 hX f2; (try simp only [Act.put, List.setIfInBounds_toArray, List.set_cons_zero, List.set_cons_succ]))
    | (go_at_call 11; refine (JBytes_any (RecR.made hu hraw.out hX)).mono ?_; rintro e w2 ⟨v5, rfl, o5, hx⟩; (try replace f2 := f2.ext hx); (try replace b5 := b5.ext hx); (try replace b7 := b7.ext hx); (try replace j9 := j9.ext RecR.stays hx); (try replace j11 := j11.ext RecR.stays hx); replace hX := hX.trans hx; clear hx; have b5 := o5.byt; clear o5; (try simp only [Act.put, List.setIfInBounds_toArray, List.set_cons_zero, List.set_cons_succ]))
    | (go_at_call 12; refine (refBytes_any (RecR.made hu hraw.out hX)).mono ?_; rintro e w3 ⟨v7, rfl, o7, hx⟩; (try replace f2 := f2.ext hx); (try replace b5 := b5.ext hx); (try replace b7 := b7.ext hx); (try replace j9 := j9.ext RecR.stays hx); (try replace j11 := j11.ext RecR.stays hx); replace hX := hX.trans hx; clear hx; have b7 := o7.byt; clear o7; (try simp only [Act.put, List.setIfInBounds_toArray, List.set_cons_zero, List.set_cons_succ]))
    | (go_at_call 9; refine (Scan_any hl (by omega) b2).mono ?_; rintro e w4 ⟨v9, rfl, hx, hJ⟩; (try replace f2 := f2.ext hx); (try replace b5 := b5.ext hx); (try replace b7 := b7.ext hx); (try replace j9 := j9.ext RecR.stays hx); (try replace j11 := j11.ext RecR.stays hx); replace hX := hX.trans hx; clear hx; have j9 := hJ.recs; clear hJ b2; (try simp only [Act.put, List.setIfInBounds_toArray, List.set_cons_zero, List.set_cons_succ]))
    | (go_at_call 13; refine (refScan_any hl (by omega) (hb.ext hX)).mono ?_; rintro e w4 ⟨v11, rfl, hx, hJ⟩; (try replace f2 := f2.ext hx); (try replace b5 := b5.ext hx); (try replace b7 := b7.ext hx); (try replace j9 := j9.ext RecR.stays hx); (try replace j11 := j11.ext RecR.stays hx); replace hX := hX.trans hx; clear hx; have j11 := hJ.recs; clear hJ; (try simp only [Act.put, List.setIfInBounds_toArray, List.set_cons_zero, List.set_cons_succ]))
    | (go_at_call 10; refine (alive_any _).mono ?_; rintro e w5 ⟨rfl, hx⟩; (try replace f2 := f2.ext hx); (try replace b5 := b5.ext hx); (try replace b7 := b7.ext hx); (try replace j9 := j9.ext RecR.stays hx); (try replace j11 := j11.ext RecR.stays hx); replace hX := hX.trans hx; clear hx; (try simp only [Act.put, List.setIfInBounds_toArray, List.set_cons_zero, List.set_cons_succ]))
    | ((try refine w_yes _ _ _ rfl rfl rfl ?_); go_at_call 14; refine (Same_yes j9 j11).mono ?_; rintro e w6 ⟨rfl, hx⟩; (try replace f2 := f2.ext hx); (try replace b5 := b5.ext hx); (try replace b7 := b7.ext hx); (try replace j9 := j9.ext RecR.stays hx); (try replace j11 := j11.ext RecR.stays hx); replace hX := hX.trans hx; clear hx; (try simp only [Act.put, List.setIfInBounds_toArray, List.set_cons_zero, List.set_cons_succ]))
    | (refine w_aload Try.stRec _ rfl rfl rfl f2 rfl ?_; (try simp only [Act.put, List.setIfInBounds_toArray, List.set_cons_zero, List.set_cons_succ]))
    | (refine w_bempty rfl rfl ?_; intro v1 wn B hB1 hBl hxn o1; (try simp only [Act.put, List.setIfInBounds_toArray, List.set_cons_zero, List.set_cons_succ]))
    | (refine appb _ _ rfl rfl rfl rfl o1 ((hb.ext hX).ext hxn) (by simp; omega) hBl ?_; intro v2 wa o2 hba hga; rw [List.nil_append] at o2; have hx := hxn.trans' (hba.mono hB1); have b2 := o2.byt; (try replace f2 := f2.ext hx); (try replace b5 := b5.ext hx); (try replace b7 := b7.ext hx); (try replace j9 := j9.ext RecR.stays hx); (try replace j11 := j11.ext RecR.stays hx); replace hX := hX.trans hx; clear hx; clear o1 o2 hba hga hxn hB1 hBl; (try simp only [Act.put, List.setIfInBounds_toArray, List.set_cons_zero, List.set_cons_succ]))
    | ((try refine w_yes _ _ _ rfl rfl rfl ?_); refine w_str _ rfl rfl (v := v5) rfl b5 ?_; (try simp only [Act.put, List.setIfInBounds_toArray, List.set_cons_zero, List.set_cons_succ]))
    | ((try refine w_yes _ _ _ rfl rfl rfl ?_); refine w_str _ rfl rfl (v := v7) rfl b7 ?_; (try simp only [Act.put, List.setIfInBounds_toArray, List.set_cons_zero, List.set_cons_succ]))
    | fail)
  go_ret
  exact Keep.intro ⟨rfl, hX⟩

set_option maxRecDepth 100000 in
theorem journalBytesUpto_lifted (os : Os) (started : os.Started) (H : Type) (enc : TypeId × Value → H) (F : Stop.Interp) :
    ReturnsInHanded {} Try.checked os 4 .any ((Rows.OpenSpec.upto Rows.journalBytesSpec).pre6 enc Try.prog Try.f4 Rows.journalBytesUptoRow.domain false) (((Rows.OpenSpec.upto Rows.journalBytesSpec).at F).post enc Try.prog Try.f4 false true false false) := by
  refine law_lifted_upto (F := F) (s := Rows.journalBytesSpec) (conds := Rows.journalBytesUptoRow.domain) Try.func4 (by kernel_rfl) rfl (fun H ds h => by
      rw [show Try.f4.params.size = 2 from rfl] at h
      match ds, h with
      | [d0, d1], _ => rfl) rfl rfl (by decide +kernel) os started H enc
    (OpenSpec.witness (enc := enc) (C := Try.checked) (s := Rows.OpenSpec.upto Rows.journalBytesSpec) (k := Rows.uptoSmall) rfl false ⟨#[], #[.agg #[.int .i64 0, .int .i64 0, .int .i64 0, .int .i64 0, .slice none 0 0], .slice none 0 0], []⟩ 8 (by kernel_rfl) (by kernel_rfl) (by kernel_rfl) (x := ([.agg [.lit (.int .i64 0), .lit (.int .i64 0), .lit (.int .i64 0), .lit (.int .i64 0), .nil], .nil], [], [])) (by kernel_rfl) rfl (by kernel_rfl)) ?_
  intro W base args ds p hval hA hsz _ hbulk
  have hp : Try.f4.params.toList = [28, 26] := rfl
  rw [hp] at hA hsz
  obtain ⟨v0, v1, d0, d1, p0, p1, rfl, rfl, rfl, h0, h1⟩ := trodAll_two hA
  obtain ⟨row0, r0, rfl, n0, a0⟩ := arg_Rec hsz (j := 0) rfl rfl (hval 0 28 v0 rfl rfl) h0
  obtain ⟨l1, a1, b1, c1, k1⟩ := arg_bytesU hsz (j := 1) rfl rfl (hval 1 26 v1 rfl rfl) h1
  exact journalBytes_law row0 r0 v1 l1 W a0 a1 b1 (by simp only [Rows.uptoBulkAll] at hbulk; omega)

theorem journalBytesUpto_holds : Rows.JournalBytesUptoSaid :=
  OpenClaim.holds_of_cond 4 Try.f4 rfl rfl rfl rfl rfl rfl rfl ⟨rfl, rfl, rfl, rfl, rfl⟩ rfl rfl rfl rfl rfl (by kernel_rfl) Try.func4 (by kernel_rfl)
    (of_decide_eq_true (by kernel_rfl)) (by unfold Func.isWrapper; first | (rw [if_pos (by decide +kernel)]; kernel_rfl) | (rw [if_neg (by decide +kernel)]; exact ⟨rfl, rfl⟩))
    (fun os started H enc _ F => journalBytesUpto_lifted os started H enc F)
#print axioms journalBytesUpto_holds

end Go.Proofs.Ytfhecifgpjbeiaa
