/- The statement TagSteps: bytes with two unlike ones behind them have unlike marks, each right for its own alone. No condition. -/
import Derived.Test.YtdnppmpgpkpapaaTNames
import Derived.Test.YtdnppmpgpkpapaaTagInj
import Derived.Test.YtdnppmpgpkpapaaArgA
import Derived.Deep.QuietTactic
import Derived.BigQuiet
import Derived.Deep.Cut
namespace Go.Proofs.Ytdnppmpgpkpapaa
open Go.RowKit Go.ChangeShapes Go.WideShapes Go.ChangeAt

set_option maxRecDepth 100000 in
set_option maxHeartbeats 800000 in
theorem steps_long (key : BitVec 64) (v : Value) (l : List Nat) (x y : Nat) (W : World) (hv : Byt W v l) (hlong : 1000 < l.length) :
    Calls Try.prog 8 #[.int .u64 (key.toNat : Int), v, .agg #[.int .u8 (x : Int), .int .u8 (y : Int)]] W fun e w' => e = .returned (.bool true) ∧ Ext W w' := by
  refine calls_keep ?_
  have ht : (decide ((1000 : Int) < (l.length : Int))) = true := by simp; omega
  go_enter Try.func8, Try.ntmps8
  go_wp2_with (go_at_call 3; refine (tagNames_any _).mono ?_; rintro e w1 ⟨rfl, hx1⟩; have hX := ((Ext.refl W).alloc _).trans hx1; have H1 := hv.ext hX; have c0 : w1.cell? ⟨W.heap.size, 0, none⟩ = some (.int .u8 (x : Int)) := hx1.cell (by go_simp); have c1 : w1.cell? ⟨W.heap.size, 1, none⟩ = some (.int .u8 (y : Int)) := hx1.cell (by go_simp))
  go_quiet (fail)
  go_wp2_with (refine b_len _ rfl rfl rfl (by assumption) ?_)
  go_ret
  exact Keep.intro ⟨rfl, hX.drewN _⟩

set_option maxRecDepth 100000 in
set_option maxHeartbeats 800000 in
theorem steps_same (key : BitVec 64) (v : Value) (l : List Nat) (x : Nat) (W : World) (hv : Byt W v l) (hlong : l.length ≤ 1000) :
    Calls Try.prog 8 #[.int .u64 (key.toNat : Int), v, .agg #[.int .u8 (x : Int), .int .u8 (x : Int)]] W fun e w' => e = .returned (.bool true) ∧ Ext W w' := by
  refine calls_keep ?_
  have ht : (decide ((1000 : Int) < (l.length : Int))) = false := by simp; omega
  go_enter Try.func8, Try.ntmps8
  go_wp2_with (go_at_call 3; refine (tagNames_any _).mono ?_; rintro e w1 ⟨rfl, hx1⟩; have hX := ((Ext.refl W).alloc _).trans hx1; have H1 := hv.ext hX; have c0 : w1.cell? ⟨W.heap.size, 0, none⟩ = some (.int .u8 (x : Int)) := hx1.cell (by go_simp); have c1 : w1.cell? ⟨W.heap.size, 1, none⟩ = some (.int .u8 (x : Int)) := hx1.cell (by go_simp))
  go_quiet (fail)
  go_wp2_with (refine b_len _ rfl rfl rfl (by assumption) ?_)
  go_ret
  exact Keep.intro ⟨rfl, hX.drewN _⟩

set_option maxRecDepth 100000 in
set_option maxHeartbeats 2000000 in
theorem steps_core (key : BitVec 64) (v : Value) (l : List Nat) (x y : Nat) (W : World) (hv : Byt W v l) (hl : ∀ z ∈ l, z < 256) (hx : x < 256) (hy : y < 256) (hlong : l.length ≤ 1000) (hne : x ≠ y) :
    Calls Try.prog 8 #[.int .u64 (key.toNat : Int), v, .agg #[.int .u8 (x : Int), .int .u8 (y : Int)]] W fun e w' => e = .returned (.bool true) ∧ Ext W w' := by
  refine calls_keep ?_
  have ht : (decide ((1000 : Int) < (l.length : Int))) = false := by simp; omega
  have hxy : ((x : Int) == (y : Int)) = false := by rw [beq_eq_false_iff_ne]; omega
  obtain ⟨m1, hm1⟩ : ∃ m, m = markB key (l ++ [x]) := ⟨_, rfl⟩
  obtain ⟨m2, hm2⟩ : ∃ m, m = markB key (l ++ [y]) := ⟨_, rfl⟩
  have hmne : m1 ≠ m2 := by rw [hm1, hm2]; exact markB_last hx hy hne
  have hmq := bv_beq m1 m2
  rw [decide_eq_false hmne] at hmq
  have F1 := hide_ (show markB key [l, [x]].flatten = m1 from by rw [hm1]; simp)
  have F2 := hide_ (show markB key [l, [y]].flatten = m2 from by rw [hm2]; simp)
  have F3 := hide_ (show markB key [l, [x], []].flatten = m1 from by rw [hm1]; simp)
  have R1 := hide_ (show decide (markB key (l ++ [x]) = m1) = true from by rw [hm1]; simp)
  have R2 := hide_ (show decide (markB key (l ++ [y]) = m1) = false from by rw [← hm2]; exact decide_eq_false hmne.symm)
  have B1 := hide_ (show ∀ q ∈ [l, [x]], ∀ z ∈ q, z < 256 from by intro q hq; simp at hq; rcases hq with rfl | rfl; exact hl; simpa using hx)
  have B2 := hide_ (show ∀ q ∈ [l, [y]], ∀ z ∈ q, z < 256 from by intro q hq; simp at hq; rcases hq with rfl | rfl; exact hl; simpa using hy)
  have B3 := hide_ (show ∀ q ∈ [l, [x], []], ∀ z ∈ q, z < 256 from by intro q hq; simp at hq; rcases hq with rfl | rfl | rfl; exact hl; simpa using hx; simp)
  have B4 := hide_ (show ∀ z ∈ l ++ [x], z < 256 from by intro z hz; rcases List.mem_append.1 hz with h | h; exact hl z h; simp at h; omega)
  have B5 := hide_ (show ∀ z ∈ l ++ [y], z < 256 from by intro z hz; rcases List.mem_append.1 hz with h | h; exact hl z h; simp at h; omega)
  have L0 : ([] : List Nat).length + l.length ≤ 140737488355328 := by simp; omega
  have L1 : ([] ++ l).length + [x].length ≤ 140737488355328 := by simp; omega
  have L2 : ([] ++ l).length + [y].length ≤ 140737488355328 := by simp; omega
  have hmn : (((m1.toNat : Nat) : Int) != ((m2.toNat : Nat) : Int)) = true := by simp only [bne, hmq]; rfl
  clear hm1 hm2 hmne hne hl
  go_enter Try.func8, Try.ntmps8
  go_wp2_with (go_at_call 3; refine (tagNames_any _).mono ?_; rintro e w1 ⟨rfl, hx1⟩; have hX := ((Ext.refl W).alloc _).trans hx1; have H1 := hv.ext hX; have c0 : w1.cell? ⟨W.heap.size, 0, none⟩ = some (.int .u8 (x : Int)) := hx1.cell (by go_simp); have c1 : w1.cell? ⟨W.heap.size, 1, none⟩ = some (.int .u8 (y : Int)) := hx1.cell (by go_simp))
  go_quiet (fail)
  have hY := hX.drewN nq
  have G := hv.ext hY
  clear c0 c1 H1 hx1
  obtain ⟨w2, hw2⟩ : ∃ w2, w2 = w1.drewN nq := ⟨_, rfl⟩
  rw [← hw2] at hY G ⊢
  clear hw2 hX
  go_upto_region 8 with (first
    | (refine b_len _ rfl rfl rfl (by assumption) ?_)
    | (refine w_bytes (o := ⟨some 28, _, _, _, _, _⟩) [x] rfl rfl rfl rfl (by omega) ?_; intro v28 w28 hx28 ho28; have G28 := G.ext hx28; have Y28 := hY.trans hx28)
    | (refine w_parts (o := ⟨some 29, _, _, _, _, _⟩) [v, v28] [l, [x]] rfl rfl rfl rfl (byts2 G28 ho28.byt) rfl (by omega) ?_; intro v29 w29 hx29 hp29; have G29 := G28.ext hx29; have Y29 := Y28.trans hx29; clear G28 ho28 hx28 Y28)
    | (go_at_call 10; ((with_reducible refine (Of_any key v29 [l, [x]] _ B1.out hp29).mono ?_); rintro e w3 ⟨rfl, rfl⟩; rw [F1.out]; clear hp29))
    | (refine w_bytes (o := ⟨some 34, _, _, _, _, _⟩) [y] rfl rfl rfl rfl (by omega) ?_; intro v34 w34 hx34 ho34; have G34 := G29.ext hx34; have Y34 := Y29.trans hx34)
    | (refine w_parts (o := ⟨some 35, _, _, _, _, _⟩) [v, v34] [l, [y]] rfl rfl rfl rfl (byts2 G34 ho34.byt) rfl (by omega) ?_; intro v35 w35 hx35 hp35; have G35 := G34.ext hx35; have Y35 := Y34.trans hx35; clear G34 ho34 hx34 Y34)
    | (go_at_call 10; ((with_reducible refine (Of_any key v35 [l, [y]] _ B2.out hp35).mono ?_); rintro e w3 ⟨rfl, rfl⟩; rw [F2.out]; clear hp35)))
  go_wp2_with (first
    | (refine w_yes _ _ _ rfl rfl rfl ?_; refine w_bytes (o := ⟨some 44, _, _, _, _, _⟩) [x] rfl rfl rfl rfl (by omega) ?_; intro v44 w44 hx44 ho44; have G44 := G35.ext hx44; have Y44 := Y35.trans hx44)
    | (refine w_yes _ _ _ rfl rfl rfl ?_; refine w_bytes (o := ⟨some 45, _, _, _, _, _⟩) [] rfl rfl rfl rfl (by omega) ?_; intro v45 w45 hx45 ho45; have G45 := G44.ext hx45; have Y45 := Y44.trans hx45; have K45 := ho44.byt.ext hx45; clear G44 Y44 ho44 hx44 hx45)
    | (refine w_yes _ _ _ rfl rfl rfl ?_; refine w_parts (o := ⟨some 46, _, _, _, _, _⟩) [v, v44, v45] [l, [x], []] rfl rfl rfl rfl (byts3 G45 K45 ho45.byt) rfl (by omega) ?_; intro v46 w46 hx46 hp46; have G46 := G45.ext hx46; have Y46 := Y45.trans hx46; clear G45 Y45 K45 ho45)
    | (go_at_call 10; ((with_reducible refine (Of_any key v46 [l, [x], []] _ B3.out hp46).mono ?_); rintro e w3 ⟨rfl, rfl⟩; rw [F3.out]; clear hp46))
    | (refine w_yes _ _ _ rfl rfl rfl ?_; refine w_bytes (o := ⟨some 54, _, _, _, _, _⟩) [] rfl rfl rfl rfl (by omega) ?_; intro v54 w54 hx54 ho54; have G54 := G46.ext hx54; have s54 := hx54.size)
    | (refine w_yes _ _ _ rfl rfl rfl ?_; refine appb (o := ⟨some 56, _, _, _, _, _⟩) (.tmp 54) (.tmp 55) rfl rfl rfl rfl ho54 G54 L0 (by first | exact Nat.le_refl _ | omega) ?_; intro v56 w56 ho56 hb56 hg56; have hx56 := (hx54.trans' hb56); have G56 := G46.ext hx56; have Y56 := Y46.trans hx56; have s56 := hx56.size; clear ho54 G54 hg56 hb56 hx54)
    | (refine w_yes _ _ _ rfl rfl rfl ?_; refine w_bytes (o := ⟨some 58, _, _, _, _, _⟩) [x] rfl rfl rfl rfl (by omega) ?_; intro v58 w58 hx58 ho58; have q58 := ho56.ext hx58; have s58 := hx58.size)
    | (refine w_yes _ _ _ rfl rfl rfl ?_; refine appb (o := ⟨some 59, _, _, _, _, _⟩) (.tmp 56) (.tmp 58) rfl rfl rfl rfl q58 ho58.byt L1 (by first | exact Nat.le_refl _ | omega) ?_; intro v59 w59 ho59 hb59 hg59; have hx59 := (hx56.trans hx58).trans' hb59; have G59 := G46.ext hx59; have Y59 := Y46.trans hx59; have K59 := ho59.byt; clear ho56 q58 ho58 hx58 hb59 hg59 ho59 G56 Y56)
    | (go_at_call 11; ((with_reducible refine (Right_any key m1 v59 _ _ B4.out K59 true R1.out).mono ?_); rintro e w60 ⟨rfl, hx60⟩; have G60 := G59.ext hx60; have Y60 := Y59.trans hx60; clear K59))
    | (refine w_yes _ _ _ rfl rfl rfl ?_; refine w_bytes (o := ⟨some 65, _, _, _, _, _⟩) [] rfl rfl rfl rfl (by omega) ?_; intro v65 w65 hx65 ho65; have G65 := G60.ext hx65; have s65 := hx65.size)
    | (refine w_yes _ _ _ rfl rfl rfl ?_; refine appb (o := ⟨some 67, _, _, _, _, _⟩) (.tmp 65) (.tmp 66) rfl rfl rfl rfl ho65 G65 L0 (by first | exact Nat.le_refl _ | omega) ?_; intro v67 w67 ho67 hb67 hg67; have hx67 := (hx65.trans' hb67); have s67 := hx67.size; clear ho65 G65 hg67 hb67 hx65)
    | (refine w_yes _ _ _ rfl rfl rfl ?_; refine w_bytes (o := ⟨some 69, _, _, _, _, _⟩) [y] rfl rfl rfl rfl (by omega) ?_; intro v69 w69 hx69 ho69; have q69 := ho67.ext hx69; have s69 := hx69.size)
    | (refine w_yes _ _ _ rfl rfl rfl ?_; refine appb (o := ⟨some 70, _, _, _, _, _⟩) (.tmp 67) (.tmp 69) rfl rfl rfl rfl q69 ho69.byt L2 (by first | exact Nat.le_refl _ | omega) ?_; intro v70 w70 ho70 hb70 hg70; have hx70 := (hx67.trans hx69).trans' hb70; have Y70 := Y60.trans hx70; have K70 := ho70.byt; clear ho67 q69 ho69 hx69 hb70 hg70 ho70)
    | (go_at_call 11; ((with_reducible refine (Right_any key m1 v70 _ _ B5.out K70 false R2.out).mono ?_); rintro e w71 ⟨rfl, hx71⟩; have Y71 := Y70.trans hx71; clear K70)))
  go_ret
  exact Keep.intro ⟨rfl, Y71⟩

theorem tagSteps_law (a : Nat) (v u : Value) (l : List Nat) (x y : Int) (W : World) (ha : a < 18446744073709551616) (hv : Byt W v l) (hl : ∀ z ∈ l, z < 256) (hu : u = .agg #[.int .u8 x, .int .u8 y]) (hx : 0 ≤ x ∧ x < 256) (hy : 0 ≤ y ∧ y < 256) :
    Calls Try.prog 8 #[.int .u64 a, v, u] W fun e w' => e = .returned (.bool true) ∧ Ext W w' := by
  obtain ⟨n, rfl⟩ := Int.eq_ofNat_of_zero_le hx.1
  obtain ⟨m, rfl⟩ := Int.eq_ofNat_of_zero_le hy.1
  subst hu
  have ha' : (a : Int) = ((BitVec.ofNat 64 a).toNat : Int) := by rw [BitVec.toNat_ofNat, Nat.mod_eq_of_lt ha]
  rw [ha']
  by_cases h1 : 1000 < l.length
  · exact steps_long _ v l n m W hv h1
  · by_cases h2 : n = m
    · subst h2; exact steps_same _ v l n W hv (by omega)
    · exact steps_core _ v l n m W hv hl (by omega) (by omega) (by omega) h2

set_option maxRecDepth 100000 in
theorem tagSteps_lifted (os : Os) (started : os.Started) (H : Type) (enc : TypeId × Value → H) :
    ReturnsInHanded {} Try.checked os 8 .any (Rows.tagStepsSpec.pre6 enc Try.prog Try.f8 Rows.tagStepsRow.domain false) (Rows.tagStepsSpec.post enc Try.prog Try.f8 false true false false) := by
  refine law_lifted (s := Rows.tagStepsSpec) (conds := Rows.tagStepsRow.domain) Try.func8 (by kernel_rfl) rfl (fun H ds h => by
      rw [show Try.f8.params.size = 3 from rfl] at h
      match ds, h with
      | [d0, d1, d2], _ => rfl) rfl rfl (by decide +kernel) os started H enc
    (ChangeSpec.witness6 (enc := enc) (C := Try.checked) false ⟨#[], #[.int .u64 0, .slice none 0 0, .agg #[.int .u8 0, .int .u8 0]], []⟩ 8 (by kernel_rfl) (by kernel_rfl) (by kernel_rfl) (by kernel_rfl)) ?_
  intro W base args ds p hval hA hsz _
  have hp : Try.f8.params.toList = [22, 26, 35] := rfl
  rw [hp] at hA hsz
  obtain ⟨v0, v1, v2, d0, d1, d2, p0, p1, p2, rfl, rfl, rfl, h0, h1, h2⟩ := trodAll_three hA
  obtain ⟨a0, rfl, b0⟩ := arg_u64 (hval 0 22 v0 rfl rfl) h0
  obtain ⟨l1, a1, b1, c1⟩ := arg_bytes hsz (j := 1) rfl rfl (hval 1 26 v1 rfl rfl) h1
  obtain ⟨x2, y2, rfl, b2, c2⟩ := open_int_array2 Try.underlying35 Try.underlying5 (by kernel_rfl) (by kernel_rfl) (hval 2 35 v2 rfl rfl) h2
  simp [Lit.wf, IntKind.min, IntKind.max, IntKind.signed, IntKind.bits] at b2 c2
  exact tagSteps_law a0 v1 _ l1 x2 y2 W b0 a1 b1 rfl (by omega) (by omega)

theorem tagSteps_holds : Rows.TagStepsSaid :=
  OpenClaim.holds_of_wide 8 Try.f8 rfl rfl rfl rfl rfl rfl rfl ⟨rfl, rfl, rfl, rfl, rfl⟩ rfl rfl rfl rfl rfl (by kernel_rfl) Try.func8 (by kernel_rfl)
    (of_decide_eq_true (by kernel_rfl)) (by unfold Func.isWrapper; first | (rw [if_pos (by decide +kernel)]; kernel_rfl) | (rw [if_neg (by decide +kernel)]; exact ⟨rfl, rfl⟩))
    (fun os started H enc _ => tagSteps_lifted os started H enc)
#print axioms tagSteps_holds

end Go.Proofs.Ytdnppmpgpkpapaa
