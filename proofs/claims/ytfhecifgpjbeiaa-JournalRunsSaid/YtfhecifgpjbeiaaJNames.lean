/- The chapter's example holds; the statement JournalNames: the error's number; nothing has no records. No condition. -/
import Derived.Test.YtfhecifgpjbeiaaJrn4
import Derived.Test.YtfhecifgpjbeiaaDskO
import Derived.Test.YtfhecifgpjbeiaaLitStep
import Derived.Test.YtfhecifgpjbeiaaLift
namespace Go.Proofs.Ytfhecifgpjbeiaa
open Go.RowKit Go.ChangeShapes Go.WideShapes Go.ChangeAt

def ar1 : RecD := ⟨1, 0, 0, -1, []⟩
def ar2 : RecD := ⟨2, 0, 0, 0, [120]⟩
theorem ar1_raw : ar1.Raw := ⟨by simp [ar1], by simp [ar1], by simp [ar1], by simp [ar1], by simp [ar1]⟩
theorem ar2_raw : ar2.Raw := ⟨by simp [ar2], by simp [ar2], by simp [ar2], by simp [ar2], by simp [ar2]⟩
theorem ar1_ok : ar1.Ok := by decide
theorem ar2_ok : ar2.Ok := by decide
theorem ar1_bs : ar1.bs = [5, 2, 1, 1, 0, 0] := by simp [RecD.bs, RecD.pay, RecD.nums, ar1, nuL, txL, numL_small]
theorem ar2_bs : ar2.bs = [6, 3, 1, 1, 1, 1, 120] := by simp [RecD.bs, RecD.pay, RecD.nums, ar2, nuL, txL, numL_small]
def aD2 : DSt := ⟨[5, 2, 1, 1, 0, 0], 6, 100⟩
def aD3 : DSt := ⟨[5, 2, 1, 1, 0, 0, 6, 3, 1, 1, 1, 1, 120], 6, 100⟩
theorem aD1_eq : jAdd (.new 100) ar1 = ⟨[5, 2, 1, 1, 0, 0], 0, 100⟩ := by rw [jAdd, if_pos ar1_ok, ar1_bs]; rfl
theorem aD1_e : jAddE (.new 100) ar1 = 0 := by rw [jAddE, if_pos ar1_ok, ar1_bs]; rfl
theorem aD3_eq : jAdd (DSt.sync ⟨[5, 2, 1, 1, 0, 0], 0, 100⟩) ar2 = aD3 := by rw [jAdd, if_pos ar2_ok, ar2_bs]; rfl
theorem aD3_e : jAddE (DSt.sync ⟨[5, 2, 1, 1, 0, 0], 0, 100⟩) ar2 = 0 := by rw [jAddE, if_pos ar2_ok, ar2_bs]; rfl
theorem recs_nil : recs [] = [] := rfl
theorem aD3_recs : recs aD3.l = [ar1, ar2] := by
  have h := recs_app [ar1, ar2] (by intro r hr; simp at hr; rcases hr with rfl | rfl; exact ar1_ok; exact ar2_ok) []
  have e : cat [ar1, ar2] ++ [] = aD3.l := by simp [cat, ar1_bs, ar2_bs, aD3]
  rw [e, recs_nil, List.append_nil] at h; exact h
theorem aD4_recs : recs (aD3.crash 6).l = [ar1] := by
  have h := recs_app [ar1] (by intro r hr; simp at hr; rcases hr with rfl; exact ar1_ok) [6, 3, 1, 1, 1, 1]
  have e : cat [ar1] ++ [6, 3, 1, 1, 1, 1] = (aD3.crash 6).l := by simp [cat, ar1_bs]; rfl
  have hn : fst [6, 3, 1, 1, 1, 1] = none := fst_cut ar2_ok (by rw [ar2_bs]; exact ⟨[120], rfl⟩) (by rw [ar2_bs]; simp)
  rw [e, recs_none hn, List.append_nil] at h; exact h
theorem aD3_lt : ∀ x ∈ aD3.l, x < 256 := by decide
theorem aD4_lt : ∀ x ∈ (aD3.crash 6).l, x < 256 := fun x hx => aD3_lt x (List.mem_of_mem_take hx)

set_option maxRecDepth 100000 in
set_option maxHeartbeats 1600000 in
theorem alive_any (W : World) : Calls Try.prog 10 #[] W fun e w' => e = .returned (.bool true) ∧ Ext W w' := by
  refine calls_keep ?_
  have hO0 := Ext.refl W
  have e1 := hide_ aD1_e
  have e1' := hide_ aD1_eq
  have e2 := hide_ aD3_e
  have e2' := hide_ aD3_eq
  have h3 := hide_ aD3_lt
  have e3 := hide_ aD3_recs
  have e4 := hide_ (show aD3.l.length = 13 from rfl)
  have e5 := hide_ (show aD3.s = 6 from rfl)
  have h6 := hide_ aD4_lt
  have e6 := hide_ aD4_recs
  go_enter Try.func10, Try.ntmps10
  go_wp2_with ((first
    | (go_at_call 15; refine (New_any 100 _).mono ?_; rintro e w1 ⟨p, rfl, hx1, hd⟩; have hO := Out.of_new hO0 hx1 hd; obtain ⟨A, rfl⟩ := hd.ne_nil; obtain ⟨F, hd, hO⟩ : ∃ F, Dsk F _ (.pointer (some A)) (.new 100) ∧ Out W F _ := ⟨_, hd, hO⟩)
    | (go_at_call 17; have ce := e1; clear ce; refine (JAdd_any (row := [.int .i64 1, .int .i64 0, .int .i64 0, .int .i64 (-1), .slice none 0 0]) (r := ar1) (RecR.made (Byt.nil _) ar1_raw (Ext.refl _)) hd).mono ?_; rintro e wa ⟨F', rfl, hu, hd'⟩; rw [e1.out]; rw [e1'.out] at hd'; replace hO := hO.upd hu; replace hd := hd'; clear hd' hu e1)
    | (go_at_call 17; have ce := hb; clear ce; refine (JAdd_any (row := [.int .i64 2, .int .i64 0, .int .i64 0, .int .i64 0, vb]) (r := ar2) (RecR.made hb ar2_raw (Ext.refl _)) hd).mono ?_; rintro e wa ⟨F', rfl, hu, hd'⟩; rw [e2.out]; rw [e2'.out] at hd'; replace hO := hO.upd hu; replace hd := hd'; clear hd' hu hb e2)
    | (go_at_call 19; refine (Sync_any hd).mono ?_; rintro e ws ⟨rfl, hm, hd'⟩; replace hO := hO.upd hm.upd; replace hd := hd'; clear hm hd')
    | ((try refine w_yes _ _ _ rfl rfl rfl ?_); refine w_blit [120] rfl rfl rfl rfl (by omega) ?_; intro gl wl hgl hxl hL)
    | ((try refine w_yes _ _ _ rfl rfl rfl ?_); refine w_bconv _ rfl rfl rfl hgl hxl hL (by simp) ?_; intro vb wb hxb hb hbk; replace hd := hd.ext hxb; replace hO := hO.extend hxb; have c4 := hb.one'; clear hgl hxl hL)
    | (refine w_sbuild Try.stRec [.int .i64 2, .int .i64 0, .int .i64 0, .int .i64 0, vb] rfl rfl rfl (by intro p hp; simp at hp; rcases hp with rfl | rfl; exact ⟨by decide, rfl⟩; exact ⟨by decide, oneCell_cells c4⟩) ?_)
    | (refine w_sbuild Try.stRec [.int .i64 1, .int .i64 0, .int .i64 0, .int .i64 (-1), .slice none 0 0] rfl rfl rfl (by intro p hp; simp at hp; rcases hp with rfl | rfl <;> exact ⟨by decide, rfl⟩) ?_)
    | ((try refine w_yes _ _ _ rfl rfl rfl ?_); go_at_call 26; have ce := e3; clear ce; refine (Read_any h3.out hd).mono ?_; rintro e wx ⟨vx, rfl, hxx, hJ⟩; rw [e3.out] at hJ; have j1 := hJ.recs; replace hO := hO.extend hxx; replace hd := hd.ext hxx; clear hJ hxx e3)
    | (go_at_call 26; refine (Read_any h6.out hd).mono ?_; rintro e wx ⟨vz, rfl, hxx, hJ⟩; rw [e6.out] at hJ; have j2 := hJ.recs; replace hO := hO.extend hxx; replace hd := hd.ext hxx; clear hJ hxx e6 j1 by1)
    | (go_at_call 25; refine (Bytes_any hd).mono ?_; rintro e wx ⟨vy, rfl, hxx, hrx⟩; replace hO := hO.extend hxx; replace hd := hd.ext hxx; have by1 : Byt _ vy aD3.l := hrx.sl; clear hxx hrx)
    | (go_at_call 29; refine (Synced_any hd).mono ?_; rintro e wy ⟨rfl, rfl⟩; rw [e5.out])
    | (go_at_call 21; refine (Crash_any 6 hd).mono ?_; rintro e wc ⟨rfl, hm, hd'⟩; replace hO := hO.upd hm.upd; replace hd := hd'; clear hm hd')
    | (refine b_len _ rfl rfl (v := vy) rfl by1 ?_; rw [e4.out])
    | ((try refine w_yes _ _ _ rfl rfl rfl ?_); refine w_rlen Try.elRec _ rfl rfl rfl j2 ?_)
    | ((try refine w_yes _ _ _ rfl rfl rfl ?_); refine w_rlen Try.elRec _ rfl rfl rfl j1 ?_)
    | ((try refine w_yes _ _ _ rfl rfl rfl ?_); refine w_ridx Try.elRec _ _ 0 rfl rfl rfl rfl j2 (by simp) ?_; rintro pa row hrow hrl ⟨⟨ua, rfl, hua⟩, _⟩)
    | ((try refine w_yes _ _ _ rfl rfl rfl ?_); refine w_pfield Try.stRec _ _ rfl rfl rfl (by omega) ?_)
    | ((try refine w_yes _ _ _ rfl rfl rfl ?_); refine w_rowload _ rfl rfl rfl hrow rfl (agg_of (by kernel_rfl)) ?_)
    | fail) <;> (try simp only [Act.put, List.setIfInBounds_toArray, List.set_cons_zero, List.set_cons_succ]))
  go_ret
  exact Keep.intro ⟨rfl, hO.ext⟩

set_option maxRecDepth 100000 in
set_option maxHeartbeats 800000 in
theorem journalNames_any (W : World) : Calls Try.prog 3 #[] W fun e w' => e = .returned (.bool true) ∧ Ext W w' := by
  refine calls_keep ?_
  have hb := Byt.nil W
  have hz := hide_ (show (((cat (recs [])).length : Nat) : Int) = 0 from rfl)
  have h0 := hide_ (show ∀ x ∈ ([] : List Nat), x < 256 from by simp)
  go_enter Try.func3, Try.ntmps3
  go_wp2_with ((first
    | (go_at_call 9; refine (Scan_any h0.out (by simp) hb).mono ?_; rintro e w1 ⟨v1, rfl, hX, hJ⟩; rw [recs_nil] at hJ; have j1 := hJ.recs; clear hb hJ; rw [hz.out])
    | (go_at_call 10; refine (alive_any _).mono ?_; rintro e w2 ⟨rfl, hx2⟩; replace j1 := j1.ext RecR.stays hx2; replace hX := hX.trans hx2)
    | ((try refine w_yes _ _ _ rfl rfl rfl ?_); refine w_rlen Try.elRec _ rfl rfl rfl j1 ?_)
    | fail) <;> (try simp only [Act.put, List.setIfInBounds_toArray, List.set_cons_zero, List.set_cons_succ]))
  go_ret
  exact Keep.intro ⟨rfl, hX⟩

set_option maxRecDepth 100000 in
theorem journalNames_lifted (os : Os) (started : os.Started) (H : Type) (enc : TypeId × Value → H) :
    ReturnsInHanded {} Try.checked os 3 .any (Rows.journalNamesSpec.pre6 enc Try.prog Try.f3 Rows.journalNamesRow.domain false) (Rows.journalNamesSpec.post enc Try.prog Try.f3 false true false false) := by
  refine law_lifted (s := Rows.journalNamesSpec) (conds := Rows.journalNamesRow.domain) Try.func3 (by kernel_rfl) rfl (fun H ds h => by
      rw [show Try.f3.params.size = 0 from rfl] at h
      obtain rfl : ds = [] := List.eq_nil_of_length_eq_zero h
      rfl) rfl rfl (by decide +kernel) os started H enc
    (ChangeSpec.witness6 (enc := enc) (C := Try.checked) false ⟨#[], #[], []⟩ 8 (by kernel_rfl) (by kernel_rfl) (by kernel_rfl) (by kernel_rfl)) ?_
  intro W base args ds p hval hA hsz _
  obtain rfl : args = #[] := by cases args with | mk l => cases l with | nil => rfl | cons v vs => cases ds <;> exact hA.elim
  exact journalNames_any W

theorem journalNames_holds : Rows.JournalNamesSaid :=
  OpenClaim.holds_of_wide 3 Try.f3 rfl rfl rfl rfl rfl rfl rfl ⟨rfl, rfl, rfl, rfl, rfl⟩ rfl rfl rfl rfl rfl (by kernel_rfl) Try.func3 (by kernel_rfl)
    (of_decide_eq_true (by kernel_rfl)) (by unfold Func.isWrapper; first | (rw [if_pos (by decide +kernel)]; kernel_rfl) | (rw [if_neg (by decide +kernel)]; exact ⟨rfl, rfl⟩))
    (fun os started H enc _ => journalNames_lifted os started H enc)
#print axioms journalNames_holds

end Go.Proofs.Ytfhecifgpjbeiaa
