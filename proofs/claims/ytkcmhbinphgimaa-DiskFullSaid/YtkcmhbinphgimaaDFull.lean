/- The statement DiskFull: what there is room for is appended, and nothing else, whatever the room is. No condition. -/
import Derived.Test.YtkcmhbinphgimaaDNames
import Derived.Test.YtkcmhbinphgimaaRecsBB
import Derived.Test.YtkcmhbinphgimaaRegA
namespace Go.Proofs.Ytkcmhbinphgimaa
open Go.RowKit Go.ChangeShapes Go.WideShapes Go.ChangeAt

set_option maxRecDepth 100000 in
set_option maxHeartbeats 1600000 in
theorem diskFull_law (n : Int) (v : Value) (l : List (List Nat)) (W : World) (hl : Recs 1 BytOk W v l) :
    Calls Try.prog 6 #[.int .i64 n, v] W fun e w' => e = .returned (.bool true) ∧ Ext W w' := by
  refine calls_keep ?_
  by_cases hbig : 200 < l.length
  · have t0 : decide ((200 : Int) < (l.length : Int)) = true := by simp; omega
    clear hbig
    go_enter Try.func6, Try.ntmps6
    go_wp2_with (first
      | (go_at_call 9; refine (alive_any _).mono ?_; rintro e w1 ⟨rfl, hX⟩; (try simp only [Act.put, List.setIfInBounds_toArray, List.set_cons_zero, List.set_cons_succ]))
      | (go_at_call 10; ((with_reducible refine (New_any _ _).mono ?_); rintro e w2 ⟨p, rfl, hx1, hd⟩; have hO := Out.of_new hX hx1 hd; obtain ⟨A, rfl⟩ := hd.ne_nil); (try simp only [Act.put, List.setIfInBounds_toArray, List.set_cons_zero, List.set_cons_succ]))
      | ((try refine w_yes _ _ _ rfl rfl rfl ?_); refine w_rlen Try.elBBS _ rfl rfl rfl (hl.ext BytOk.stays hO.ext) ?_; (try simp only [Act.put, List.setIfInBounds_toArray, List.set_cons_zero, List.set_cons_succ]))
      | fail)
    go_ret
    exact Keep.intro ⟨rfl, hO.ext⟩
  have t0 : decide ((200 : Int) < (l.length : Int)) = false := by simp; omega
  have h200 : l.length ≤ 200 := by omega
  clear hbig
  go_enter Try.func6, Try.ntmps6
  go_wp2_with (first
    | (go_at_call 9; refine (alive_any _).mono ?_; rintro e w1 ⟨rfl, hX⟩; (try simp only [Act.put, List.setIfInBounds_toArray, List.set_cons_zero, List.set_cons_succ]))
    | (go_at_call 10; ((with_reducible refine (New_any _ _).mono ?_); rintro e w2 ⟨p, rfl, hx1, hd⟩; have hO := Out.of_new hX hx1 hd; obtain ⟨A, rfl⟩ := hd.ne_nil); (try simp only [Act.put, List.setIfInBounds_toArray, List.set_cons_zero, List.set_cons_succ]))
    | ((try refine w_yes _ _ _ rfl rfl rfl ?_); refine w_rlen Try.elBBS _ rfl rfl rfl (hl.ext BytOk.stays hO.ext) ?_; (try simp only [Act.put, List.setIfInBounds_toArray, List.set_cons_zero, List.set_cons_succ]))
    | fail)
  go_loopw [6, 26] (fun s i wr => ∃ (k : Nat) (F : Nat → Prop) (D : DSt), i = .int .i64 k ∧ k ≤ l.length ∧ s = .string (strN D.l) ∧ Dsk F wr (.pointer (some A)) D ∧ Out W F wr ∧ Hid (D.lim = bet n 65536 ∧ D.l.length ≤ D.lim)) (fun _ i _ => l.length - (intOf i).toNat)
  case atStart => exact ⟨0, _, _, rfl, Nat.zero_le _, rfl, hd, hO, hide_ ⟨rfl, Nat.zero_le _⟩⟩
  case round =>
    clear hd hO
    obtain ⟨k, F, D, rfl, hk, rfl, hd, hO, hD⟩ := hrel
    by_cases hlt : k < l.length
    · have hbd := hd.bd
      have hW := hO.ext.size
      have hsz : wr.heap.size ≤ wr.heap.size := Nat.le_refl _
      have t1 : decide (k < l.length) = true := by simpa using hlt
      by_cases hfit : l[k].length ≤ D.room
      · have e0 := hide_ (show D.err l[k] = 0 from if_pos hfit)
        have e1 := hide_ (show D.app l[k] = { D with l := D.l ++ l[k] } from if_pos hfit)
        have t2 : decide (l[k].length ≤ D.room) = true := by simpa using hfit
        have hD' := hide_ (show D.lim = bet n 65536 ∧ (D.l ++ l[k]).length ≤ D.lim from ⟨hD.out.1, by have := hD.out.2; unfold DSt.room at hfit; simp; omega⟩)
        have hcat : D.l.length + l[k].length ≤ 140737488355328 := by have := hD.out.2; have := hd.ok.lim; unfold DSt.room at hfit; omega
        clear hfit
        go_wp2_with (first
          | (refine w_ridx0 Try.elBBS _ _ k BytOk.stays rfl rfl rfl rfl hl hO.ext hlt ?_; rintro p row hrow hrl ⟨⟨u, rfl, hu⟩, hokb⟩; (try simp only [Act.put, List.setIfInBounds_toArray, List.set_cons_zero, List.set_cons_succ]))
          | (refine w_cload _ rfl rfl rfl (hrow.ext hO.ext) (agg_of (by kernel_rfl)) ?_; (try simp only [Act.put, List.setIfInBounds_toArray, List.set_cons_zero, List.set_cons_succ]))
          | (go_at_call 12; refine (Room_any hd).mono ?_; rintro e wq ⟨rfl, hxq⟩; replace hO := hO.extend hxq; replace hd := hd.ext hxq; replace hsz := Nat.le_trans hsz hxq.size; (try simp only [Act.put, List.setIfInBounds_toArray, List.set_cons_zero, List.set_cons_succ]))
          | (refine w_bempty rfl rfl ?_; intro v1 wn B hB1 hBl hxn o1; replace hd := hd.ext hxn; replace hO := hO.extend hxn; have hB2 : wr.heap.size ≤ B := Nat.le_trans hsz hB1; clear hxn hB1; (try simp only [Act.put, List.setIfInBounds_toArray, List.set_cons_zero, List.set_cons_succ]))
          | (refine appb _ _ rfl rfl rfl rfl o1 (hu.ext hO.ext) (by have := hokb.2; simp; omega) hBl ?_; intro v2 wa o2 hba hga; rw [List.nil_append] at o2; replace hd := hd.mod (Below.toMod hba) (fun j hj (e : B ≤ j) => by have := hbd j hj; omega); replace hO := hO.other (Below.toMod hba) (fun j (e : B ≤ j) => by omega); clear o1 hba hga; (try simp only [Act.put, List.setIfInBounds_toArray, List.set_cons_zero, List.set_cons_succ]))
          | (go_at_call 11; refine (Append_any hd o2.byt).mono ?_; rintro e wz ⟨F', rfl, hup, hd'⟩; replace hO := hO.upd hup; replace hd := hd'; clear hd' hup o2; rw [e0.out]; rw [e1.out] at hd; (try simp only [Act.put, List.setIfInBounds_toArray, List.set_cons_zero, List.set_cons_succ]))
          | (refine b_len _ rfl rfl rfl (hu.ext hO.ext) ?_; (try simp only [Act.put, List.setIfInBounds_toArray, List.set_cons_zero, List.set_cons_succ]))
          | (refine w_str _ rfl rfl rfl (hu.ext hO.ext) ?_; (try simp only [Act.put, List.setIfInBounds_toArray, List.set_cons_zero, List.set_cons_succ]))
          | (refine w_cat _ _ rfl rfl rfl rfl hcat ?_; (try simp only [Act.put, List.setIfInBounds_toArray, List.set_cons_zero, List.set_cons_succ]))
          | fail)
        go_roundw
        case rel => exact ⟨k + 1, _, _, by go_num, by omega, rfl, hd, hO, hD'⟩
        case measure => simp [intOf]; omega
      · have e0 := hide_ (show D.err l[k] = 41 from if_neg hfit)
        have e1 := hide_ (show D.app l[k] = D from if_neg hfit)
        have t2 : decide (l[k].length ≤ D.room) = false := by simpa using hfit
        clear hfit
        go_wp2_with (first
          | (refine w_ridx0 Try.elBBS _ _ k BytOk.stays rfl rfl rfl rfl hl hO.ext hlt ?_; rintro p row hrow hrl ⟨⟨u, rfl, hu⟩, hokb⟩; (try simp only [Act.put, List.setIfInBounds_toArray, List.set_cons_zero, List.set_cons_succ]))
          | (refine w_cload _ rfl rfl rfl (hrow.ext hO.ext) (agg_of (by kernel_rfl)) ?_; (try simp only [Act.put, List.setIfInBounds_toArray, List.set_cons_zero, List.set_cons_succ]))
          | (go_at_call 12; refine (Room_any hd).mono ?_; rintro e wq ⟨rfl, hxq⟩; replace hO := hO.extend hxq; replace hd := hd.ext hxq; replace hsz := Nat.le_trans hsz hxq.size; (try simp only [Act.put, List.setIfInBounds_toArray, List.set_cons_zero, List.set_cons_succ]))
          | (refine w_bempty rfl rfl ?_; intro v1 wn B hB1 hBl hxn o1; replace hd := hd.ext hxn; replace hO := hO.extend hxn; have hB2 : wr.heap.size ≤ B := Nat.le_trans hsz hB1; clear hxn hB1; (try simp only [Act.put, List.setIfInBounds_toArray, List.set_cons_zero, List.set_cons_succ]))
          | (refine appb _ _ rfl rfl rfl rfl o1 (hu.ext hO.ext) (by have := hokb.2; simp; omega) hBl ?_; intro v2 wa o2 hba hga; rw [List.nil_append] at o2; replace hd := hd.mod (Below.toMod hba) (fun j hj (e : B ≤ j) => by have := hbd j hj; omega); replace hO := hO.other (Below.toMod hba) (fun j (e : B ≤ j) => by omega); clear o1 hba hga; (try simp only [Act.put, List.setIfInBounds_toArray, List.set_cons_zero, List.set_cons_succ]))
          | (go_at_call 11; refine (Append_any hd o2.byt).mono ?_; rintro e wz ⟨F', rfl, hup, hd'⟩; replace hO := hO.upd hup; replace hd := hd'; clear hd' hup o2; rw [e0.out]; rw [e1.out] at hd; (try simp only [Act.put, List.setIfInBounds_toArray, List.set_cons_zero, List.set_cons_succ]))
          | (refine b_len _ rfl rfl rfl (hu.ext hO.ext) ?_; (try simp only [Act.put, List.setIfInBounds_toArray, List.set_cons_zero, List.set_cons_succ]))
          | (refine w_str _ rfl rfl rfl (hu.ext hO.ext) ?_; (try simp only [Act.put, List.setIfInBounds_toArray, List.set_cons_zero, List.set_cons_succ]))
          | fail)
        go_roundw
        case rel => exact ⟨k + 1, _, _, by go_num, by omega, rfl, hd, hO, hD⟩
        case measure => simp [intOf]; omega
    · have t1 : decide (k < l.length) = false := by simpa using hlt
      have hsz : wr.heap.size ≤ wr.heap.size := Nat.le_refl _
      have hss := strN_size D.l
      have ho := hd.ok
      have t2 : ((D.l.length : Int) + (D.room : Int) == ((bet n 65536 : Nat) : Int)) = true := by
        have h1 := hD.out.1; have h2 := hD.out.2; rw [beq_iff_eq]; unfold DSt.room; omega
      have hb := hide_ (bet_int n 65536)
      have hmm := hide_ (show ((bet n 65536 : Nat) : Int) = max 0 (min n 65536) from by rw [bet_int]; omega)
      obtain ⟨o1, o2, o3⟩ := ho
      have o4 : D.room ≤ 65536 := by unfold DSt.room; omega
      go_wp2_with (first
        | (go_at_call 22; refine (Bytes_any hd).mono ?_; rintro e wb ⟨v8, rfl, hxb, h8⟩; replace hd := hd.ext hxb; replace hO := hO.extend hxb; replace hsz := Nat.le_trans hsz hxb.size; (try simp only [Act.put, List.setIfInBounds_toArray, List.set_cons_zero, List.set_cons_succ]))
        | (refine w_str _ rfl rfl rfl h8.sl ?_; (try simp only [Act.put, List.setIfInBounds_toArray, List.set_cons_zero, List.set_cons_succ]))
        | (go_at_call 12; refine (Room_any hd).mono ?_; rintro e wq ⟨rfl, hxq⟩; replace hO := hO.extend hxq; replace hd := hd.ext hxq; replace hsz := Nat.le_trans hsz hxq.size; (try simp only [Act.put, List.setIfInBounds_toArray, List.set_cons_zero, List.set_cons_succ]))
        | ((try refine w_yes _ _ _ rfl rfl rfl ?_); refine w_min _ _ (min n 65536) rfl rfl rfl rfl rfl ?_; (try simp only [Act.put, List.setIfInBounds_toArray, List.set_cons_zero, List.set_cons_succ]))
        | ((try refine w_yes _ _ _ rfl rfl rfl ?_); refine w_max _ _ (bet n 65536 : Nat) hmm.out rfl rfl rfl rfl ?_; (try simp only [Act.put, List.setIfInBounds_toArray, List.set_cons_zero, List.set_cons_succ]))
        | fail)
      go_ret
      exact Keep.intro ⟨rfl, hO.ext⟩

set_option maxRecDepth 100000 in
theorem diskFull_lifted (os : Os) (started : os.Started) (H : Type) (enc : TypeId × Value → H) :
    ReturnsInHanded {} Try.checked os 6 .any (Rows.diskFullSpec.pre6 enc Try.prog Try.f6 Rows.diskFullRow.domain false) (Rows.diskFullSpec.post enc Try.prog Try.f6 false true false false) := by
  refine law_lifted (s := Rows.diskFullSpec) (conds := Rows.diskFullRow.domain) Try.func6 (by kernel_rfl) rfl (fun H ds h => by
      rw [show Try.f6.params.size = 2 from rfl] at h
      match ds, h with
      | [d0, d1], _ => rfl) rfl rfl (by decide +kernel) os started H enc
    (ChangeSpec.witness6 (enc := enc) (C := Try.checked) false ⟨#[], #[.int .i64 0, .slice none 0 0], []⟩ 8 (by kernel_rfl) (by kernel_rfl) (by kernel_rfl) (by kernel_rfl)) ?_
  intro W base args ds p hval hA hsz _
  have hp : Try.f6.params.toList = [3, 43] := rfl
  rw [hp] at hA hsz
  obtain ⟨v0, v1, d0, d1, p0, p1, rfl, rfl, rfl, h0, h1⟩ := trodAll_two hA
  obtain ⟨a0, rfl, b0, c0⟩ := arg_int (hval 0 3 v0 rfl rfl) h0
  obtain ⟨l1, a1⟩ := arg_bb hsz (j := 1) rfl rfl (hval 1 43 v1 rfl rfl) h1
  exact diskFull_law a0 v1 l1 W a1

theorem diskFull_holds : Rows.DiskFullSaid :=
  OpenClaim.holds_of_wide 6 Try.f6 rfl rfl rfl rfl rfl rfl rfl ⟨rfl, rfl, rfl, rfl, rfl⟩ rfl rfl rfl rfl rfl (by kernel_rfl) Try.func6 (by kernel_rfl)
    (of_decide_eq_true (by kernel_rfl)) (by unfold Func.isWrapper; first | (rw [if_pos (by decide +kernel)]; kernel_rfl) | (rw [if_neg (by decide +kernel)]; exact ⟨rfl, rfl⟩))
    (fun os started H enc _ => diskFull_lifted os started H enc)
#print axioms diskFull_holds

end Go.Proofs.Ytkcmhbinphgimaa
