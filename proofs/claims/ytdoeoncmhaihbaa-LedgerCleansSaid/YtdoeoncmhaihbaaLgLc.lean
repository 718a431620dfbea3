/- The statement LedgerCleans: any lists of numbers, each where it comes first; they stay. No condition. -/
import Derived.Test.YtdoeoncmhaihbaaLgLa
import Derived.Test.YtdoeoncmhaihbaaLgArg
import Derived.Test.YtdoeoncmhaihbaaLgS
namespace Go.Proofs.Ytdoeoncmhaihbaa
set_option maxRecDepth 100000
open Go.RowKit Go.ChangeShapes Go.WideShapes Go.ChangeAt

theorem flat_len200 : ∀ {ls : List (List Int)}, (∀ l ∈ ls, l.length ≤ 200) → ls.flatten.length ≤ ls.length * 200
  | [], _ => by simp
  | l :: ls, h => by
    have h1 := h l List.mem_cons_self
    have h2 := flat_len200 (ls := ls) fun x hx => h x (List.mem_cons_of_mem _ hx)
    rw [List.flatten_cons, List.length_append, List.length_cons]
    omega

set_option maxRecDepth 100000 in
set_option maxHeartbeats 6400000 in
theorem ledgerCleans_law (v0 : Value) (ls : List (List Int)) (W : World) (h00 : Recs 1 IntR W v0 ls) :
    Calls Try.prog 4 #[v0] W fun e w' => e = .returned (.bool true) ∧ Ext W w' := by
  refine calls_keep ?_
  have h := hide_ h00
  have hI := hide_ (recs_i64 h00)
  have hmax := h00.len_le
  unfold maxLen at hmax
  clear h00
  by_cases hb1 : 60 < ls.length
  · have t1 : decide ((60 : Int) < (ls.length : Int)) = true := decide_eq_true (by omega)
    have t1' : decide ((ls.length : Int) > 60) = true := decide_eq_true (by omega)
    clear hb1
    go_enter Try.func4, Try.ntmps4
    go_wp2_with ((first
      | (go_at_call 10; refine (ledgerAlive_any _).mono ?_; rintro e w2 ⟨rfl, hX⟩)
      | ((with_reducible refine at_bi ?_); refine w_rlen Try.elLS _ rfl rfl rfl (h.out.ext IntR.stays hX) ?_)
      | fail) <;> (try simp only [Act.put, List.setIfInBounds_toArray, List.set_cons_zero, List.set_cons_succ]))
    go_ret
    exact Keep.intro ⟨rfl, hX⟩
  have t1 : decide ((60 : Int) < (ls.length : Int)) = false := decide_eq_false (by omega)
  have t1' : decide ((ls.length : Int) > 60) = false := decide_eq_false (by omega)
  have h60 := hide_ (show ls.length ≤ 60 by omega)
  clear hb1
  go_enter Try.func4, Try.ntmps4
  go_wp2_with ((first
    | (go_at_call 10; refine (ledgerAlive_any _).mono ?_; rintro e w2 ⟨rfl, hX⟩)
    | ((with_reducible refine at_lit ?_); refine w_new Try.elLL [] rfl rfl rfl (by simp) rfl (by omega) ?_; intro v7 w3 hx o7; have hL : LS w2.heap.size _ w3 v7 [] := LS.made o7; have hX2 := hide_ hX; replace hX := hx; clear hx o7)
    | ((with_reducible refine at_bi ?_); refine w_rlen Try.elLS _ rfl rfl rfl (h.out.ext IntR.stays (hX2.out.trans hX)) ?_)
    | ((with_reducible refine at_bi ?_); refine w_rlen Try.elLS _ rfl rfl rfl (h.out.ext IntR.stays hX) ?_)
    | fail) <;> (try simp only [Act.put, List.setIfInBounds_toArray, List.set_cons_zero, List.set_cons_succ]))
  go_loopw [3, 17] (fun u3 i wr => ∃ (k : Nat) (F : Nat → Prop), i = .int .i64 k ∧ k ≤ ls.length ∧ LS w2.heap.size F wr u3 (ls.take k) ∧ (∀ l ∈ ls.take k, l.length ≤ 200) ∧ Ext w2 wr) (fun _ i _ => ls.length - (RowKit.intOf i).toNat)
  case atStart => exact ⟨0, _, rfl, Nat.zero_le _, hL, (by simp), hX⟩
  case round =>
    clear hX hL
    obtain ⟨k, F, rfl, hk, hL, h200, hX⟩ := hrel
    obtain ⟨vL, hvL⟩ : ∃ va, va = u3 := ⟨_, rfl⟩
    rw [← hvL] at hL
    subst hvL
    by_cases hge : ls.length ≤ k
    · obtain rfl : k = ls.length := by omega
      have t2 : decide (ls.length < ls.length) = false := by simp
      rw [List.take_length] at hL h200
      have hfl := hide_ (show ls.flatten.length ≤ 600000 from by have h1 := flat_len200 h200; have h2 := h60.out; omega)
      have hown := hide_ hL.recs
      clear hge h200
      go_wp2_with ((first
        | (go_at_call 11; refine (Clean_any (hown.out.ext IntR.stays (Ext.refl _)) hfl.out).mono ?_; rintro e w9 ⟨v32, rfl, o32, hx⟩; have i32 := hide_ o32.ints; have hx9 := hide_ hx; have hX9 := hide_ (hX2.out.trans (hX.trans hx)); replace hX := Ext.refl w9; clear hx o32)
        | ((with_reducible refine at_bi ?_); refine w_rlen Try.elLS _ rfl rfl rfl (hown.out.ext IntR.stays hx9.out) ?_)
        | fail) <;> (try simp only [Act.put, List.setIfInBounds_toArray, List.set_cons_zero, List.set_cons_succ]))
      clear hL
      go_loopw [35] (fun i wx => ∃ j : Nat, i = .int .i64 j ∧ j ≤ ls.length ∧ Ext w9 wx) (fun i _ => ls.length - (RowKit.intOf i).toNat)
      case atStart => exact ⟨0, rfl, Nat.zero_le _, hX⟩
      case round =>
        clear hX
        obtain ⟨j, rfl, hj, hX⟩ := hrel
        by_cases hge : ls.length ≤ j
        · obtain rfl : j = ls.length := by omega
          have t3 : decide (ls.length < ls.length) = false := by simp
          clear hge
          go_wp2_with (first
            | (go_at_call 16; refine (refLClean_any (h.out.ext IntR.stays (hX9.out.trans hX)) hfl.out).mono ?_; rintro e w10 ⟨v50, rfl, o50, hx⟩; replace hX := hX.trans hx; clear hx)
            | (go_at_call 15; refine (SameInts_any _ _ (cl ls.flatten) _ (i32.out.ext hX) o50.ints).mono ?_; rintro e w11 ⟨rfl, hx⟩; replace hX := hX.trans hx; clear hx)
            | fail)
          go_ret
          exact Keep.intro ⟨rfl, hX9.out.trans hX⟩
        have hlt : j < ls.length := by omega
        have t3 : decide (j < ls.length) = true := by simpa using hlt
        obtain ⟨l, hd0⟩ : ∃ l, ls[j]? = some l := ⟨_, List.getElem?_eq_getElem hlt⟩
        have hd := hide_ hd0
        have hlt' := hide_ hlt
        have hjb : j < 9223372036854775807 := by omega
        clear hge hd0 hlt
        go_wp2_with ((first
          | ((with_reducible refine at_idx ?_); refine w_lsidx _ _ j rfl rfl rfl rfl hown.out (hx9.out.trans hX) hd.out ?_; intro pa ua hrow hua; replace hrow := hide_ hrow; have hua := hide_ hua)
          | ((with_reducible refine at_idx ?_); refine w_lsidx _ _ j rfl rfl rfl rfl h.out (hX9.out.trans hX) hd.out ?_; intro pb ub hrob hub; replace hrob := hide_ hrob; have hub := hide_ hub)
          | ((with_reducible refine at_load ?_); refine w_cload _ rfl rfl rfl hrow.out (fun w => by kernel_rfl) ?_)
          | ((with_reducible refine at_load ?_); refine w_cload _ rfl rfl rfl hrob.out (fun w => by kernel_rfl) ?_)
          | (go_at_call 15; refine (SameInts_any _ _ l _ (hua.out.ext (hx9.out.trans hX)) (hub.out.ext (hX9.out.trans hX))).mono ?_; rintro e w11 ⟨rfl, hx⟩; replace hX := hX.trans hx; clear hx)
          | fail) <;> (try simp only [Act.put, List.setIfInBounds_toArray, List.set_cons_zero, List.set_cons_succ]))
        go_roundw
        case rel => exact ⟨j + 1, by go_num, hlt'.out, hX⟩
        case measure => have := hlt'.out; simp [RowKit.intOf]; omega
    have hlt : k < ls.length := by omega
    have t2 : decide (k < ls.length) = true := by simpa using hlt
    obtain ⟨l, hd0⟩ : ∃ l, ls[k]? = some l := ⟨_, List.getElem?_eq_getElem hlt⟩
    have hd := hide_ hd0
    have hlI := hide_ (hI.out l (List.mem_of_getElem? hd0))
    have e0 : ls.take (k + 1) = ls.take k ++ [l] := by rw [List.take_add_one, hd0]; rfl
    have hkb : k ≤ 60 := by have := h60.out; omega
    have hk' := hide_ (show (ls.take k).length ≤ 60 from by rw [List.length_take]; omega)
    have hlt' := hide_ hlt
    by_cases hb2 : 200 < l.length
    · have t4 : decide ((200 : Int) < (l.length : Int)) = true := decide_eq_true (by omega)
      have t4' : decide ((l.length : Int) > 200) = true := decide_eq_true (by omega)
      clear hge hlt hd0 e0 hb2 h200
      go_wp2_with ((first
        | ((with_reducible refine at_idx ?_); refine w_lsidx _ _ k rfl rfl rfl rfl h.out (hX2.out.trans hX) hd.out ?_; intro pa ul hrow hul0; replace hrow := hide_ hrow; have hul := hide_ hul0; clear hul0)
        | ((with_reducible refine at_load ?_); refine w_cload _ rfl rfl rfl hrow.out (fun w => by kernel_rfl) ?_)
        | ((with_reducible refine at_bi ?_); refine i_len _ rfl rfl rfl (hul.out.ext (hX2.out.trans hX)) ?_)
        | fail) <;> (try simp only [Act.put, List.setIfInBounds_toArray, List.set_cons_zero, List.set_cons_succ]))
      go_ret
      exact Keep.intro ⟨rfl, hX2.out.trans hX⟩
    have t4 : decide ((200 : Int) < (l.length : Int)) = false := decide_eq_false (by omega)
    have t4' : decide ((l.length : Int) > 200) = false := decide_eq_false (by omega)
    have hst := hide_ e0
    have h2n := hide_ (show ∀ x ∈ ls.take (k + 1), x.length ≤ 200 from by
      intro x hx
      rw [e0] at hx
      rcases List.mem_append.1 hx with hx | hx
      · exact h200 x hx
      · rw [List.mem_singleton] at hx; subst hx; omega)
    have hbig := hide_ (show (([] : List Int).length + l.length) * 8 ≤ 140737488355328 from by simp; omega)
    clear hge hlt hd0 e0 hb2 h200
    go_wp2_with ((first
      | ((with_reducible refine at_idx ?_); refine w_lsidx _ _ k rfl rfl rfl rfl h.out (hX2.out.trans hX) hd.out ?_; intro pa ul hrow hul0; replace hrow := hide_ hrow; have hul := hide_ hul0; clear hul0)
      | ((with_reducible refine at_load ?_); refine w_cload _ rfl rfl rfl hrow.out (fun w => by kernel_rfl) ?_)
      | ((with_reducible refine at_bi ?_); refine i_len _ rfl rfl rfl (hul.out.ext (hX2.out.trans hX)) ?_)
      | ((with_reducible refine at_lit ?_); refine w_new Try.elI (i64s []) rfl rfl rfl (i64s_cells _) rfl (by omega) ?_; intro v5 w5 hx3 o5; replace o5 : OwnI _ w5 v5 [] := o5; have hs5 := hx3.size)
      | ((with_reducible refine at_bi ?_); refine appi _ _ rfl rfl rfl rfl o5 (hul.out.ext (hX2.out.trans (hX.trans hx3))) hbig.out hs5 ?_; intro v9 w9 o9 hb9 hg9 hg9'; rw [List.nil_append] at o9; have hs := hide_ (show Safe F w9 v9 (i64s l) from o9.safe fun j hj => (hL.hF j hj).2); have hone := hide_ (Sl.one' o9.ints); have hx4 := hx3.trans' hb9; replace hL := hL.ext hx4; replace hX := hX.trans hx4; clear hb9 hg9 hg9' hx3 hx4 hs5 o5 o9)
      | ((with_reducible refine at_lit ?_); refine w_new Try.elLL [v9] rfl rfl rfl (one1 (oneCell_cells hone.out)) rfl (by omega) ?_; intro v26 w6 hx o26; have h26 := Sl.of_own o26; replace hL := hL.ext hx; replace hs := hide_ (hs.out.ext hx); replace hX := hX.trans hx; clear hx o26)
      | ((with_reducible refine at_bi ?_); obtain ⟨us, hRow, hul2, hus⟩ := hL.ex; refine w_rapp Try.elLL _ _ rfl rfl rfl rfl hRow h26 (by intro y hy; rw [List.mem_singleton] at hy; subst hy; exact hone.out) (by rw [hul2]; have := hk'.out; simp; omega) ?_; intro v27 w7 hm7 hr7 _; have hL7 := LS.app hul2 hus hL.hF hX.size hm7 hr7 hs.out hlI.out; replace hX := hm7.after hX (fun j hj => (hL.hF j hj).1); clear hRow hul2 hus hL hm7 hr7 h26 hs)
      | fail) <;> (try simp only [Act.put, List.setIfInBounds_toArray, List.set_cons_zero, List.set_cons_succ]))
    go_roundw
    case rel => exact ⟨k + 1, _, by go_num, hlt'.out, by rw [hst.out]; exact hL7, h2n.out, hX⟩
    case measure => have := hlt'.out; simp [RowKit.intOf]; omega

set_option maxRecDepth 100000 in
theorem ledgerCleans_lifted (os : Os) (started : os.Started) (H : Type) (enc : TypeId × Value → H) :
    ReturnsInHanded {} Try.checked os 4 .any (Rows.ledgerCleansSpec.pre6 enc Try.prog Try.f4 Rows.ledgerCleansRow.domain false) (Rows.ledgerCleansSpec.post enc Try.prog Try.f4 false true false false) := by
  refine law_lifted (s := Rows.ledgerCleansSpec) (conds := Rows.ledgerCleansRow.domain) Try.func4 (by kernel_rfl) rfl (fun H ds h => by
      rw [show Try.f4.params.size = 1 from rfl] at h
      match ds, h with
      | [d0], _ => rfl) rfl rfl (by decide +kernel) os started H enc
    (ChangeSpec.witness6 (enc := enc) (C := Try.checked) false ⟨#[], #[.slice none 0 0], []⟩ 8 (by kernel_rfl) (by kernel_rfl) (by kernel_rfl) (by kernel_rfl)) ?_
  intro W base args ds p hval hA hsz _
  have hp : Try.f4.params.toList = [29] := rfl
  rw [hp] at hA hsz
  obtain ⟨v0, d0, rfl, rfl, h0⟩ := trodAll_one hA
  obtain ⟨l0, k0⟩ := arg_Ls hsz (j := 0) rfl rfl (hval 0 29 v0 rfl rfl) h0
  exact ledgerCleans_law v0 l0 W k0

theorem ledgerCleans_holds : Rows.LedgerCleansSaid :=
  OpenClaim.holds_of_wide 4 Try.f4 rfl rfl rfl rfl rfl rfl rfl ⟨rfl, rfl, rfl, rfl, rfl⟩ rfl rfl rfl rfl rfl (by kernel_rfl) Try.func4 (by kernel_rfl)
    (of_decide_eq_true (by kernel_rfl)) (by unfold Func.isWrapper; first | (rw [if_pos (by decide +kernel)]; kernel_rfl) | (rw [if_neg (by decide +kernel)]; exact ⟨rfl, rfl⟩))
    (fun os started H enc _ => ledgerCleans_lifted os started H enc)
#print axioms ledgerCleans_holds

end Go.Proofs.Ytdoeoncmhaihbaa
