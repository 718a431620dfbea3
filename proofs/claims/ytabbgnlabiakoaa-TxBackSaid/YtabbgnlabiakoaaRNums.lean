/- The contracts of wire.ReadNums and neaptideref01.ReadNums: so many numbers of any bytes. -/
import Derived.Test.YtabbgnlabiakoaaNums
namespace Go.Proofs.Ytabbgnlabiakoaa
open Go.RowKit

/-- So many numbers with which bytes begin, and what is behind them. -/
def rns : Nat → List Nat → Option (List Int × List Nat)
  | 0, l => some ([], l)
  | k + 1, l => if (rd l).2 = 0 ∨ 4611686018427387905 < (rd l).1 then none else (rns k (rdRest l)).map fun r => ((((rd l).1 : Int) - 1) :: r.1, r.2)
def rnO (c : Int) (l : List Nat) : Option (List Int × List Nat) := if c < 0 ∨ 64 < c then none else rns c.toNat l
def rnV (o : Option (List Int × List Nat)) : List Int := match o with | some r => r.1 | none => []
def rnR (o : Option (List Int × List Nat)) : List Nat := match o with | some r => r.2 | none => []
def rnE (o : Option (List Int × List Nat)) : Nat := match o with | some _ => 0 | none => 11

theorem rdRest_len (l : List Nat) : (rdRest l).length ≤ l.length := by rw [rdRest]; split <;> simp
theorem rdRest_lt' {l : List Nat} (hl : ∀ x ∈ l, x < 256) : ∀ x ∈ rdRest l, x < 256 := by
  intro x hx; rw [rdRest] at hx
  split at hx
  · simp at hx
  · exact hl x (List.mem_of_mem_drop hx)

theorem own_empty2 {w : World} {n : Nat} (hn : n = w.heap.size) : OwnB w.heap.size (w.alloc (.cells #[] 5)) (.slice (some ⟨n, 0, none⟩) 0 0) [] := by subst hn; exact own_empty
theorem own_apart {B B' : Nat} {w : World} {b nv : Value} {mm : List Nat} {ys : List Int} (hb : OwnB B w b mm) (hn : OwnI B' w nv ys) : b.ownBlock = none ∨ b.ownBlock ≠ nv.ownBlock := by
  rcases hb.2 with ⟨rfl, _⟩ | ⟨g, cap, cur, rfl, _, hg, _⟩
  · exact .inl rfl
  · refine .inr fun he => ?_
    rcases hn.2 with ⟨rfl, _⟩ | ⟨g', cap', cur', rfl, _, hg', _⟩
    · simp [Value.ownBlock] at he
    · have : g = g' := by simpa [Value.ownBlock] using he
      subst this
      rw [hg] at hg'
      injection hg' with h1
      injection h1 with _ h2
      exact absurd h2 (by decide)
theorem OwnB.kept {B : Nat} {w w' : World} {b : Value} {mm : List Nat} {row : Option Nat} (h : OwnB B w b mm) (hg : w.grownBy w' row) (hne : b.ownBlock = none ∨ b.ownBlock ≠ row) : OwnB B w' b mm := World.ownsRow.kept h hg hne

/-- b[i:], where b's fact speaks of another world than the one at hand. -/
theorem b_from0 {ops : Array Oper} {rest : List Oper} {o : Oper} {a : Act} {Q : Exit → Act → World → Prop} {w w0 : World} {v : Value} {l : List Nat} (x y : Operand) (i : Nat) (hgd : o.guard = none) (ho : o.op = .slice 28 x (some y) none none) (hv : a.eval x = v) (h : Byt w0 v l)
    (hy : a.eval y = .int .i64 i) (hj : i ≤ l.length) (k : ∀ v', Byt w0 v' (l.drop i) → wpList Try.prog ops Q rest (a.put o.dst v') w) : wpList Try.prog ops Q (o :: rest) a w := by
  have E := Try.elB
  obtain ⟨A, c, rfl, h1, h2, h3⟩ := h
  obtain ⟨i0, hi0, _, hsz, _⟩ := E.info
  have hu := E.hu
  rw [u8s_length] at *
  have key : Byt w0 (.slice (if c = i then A else A.map (·.add (i * 1))) (l.length - i) (c - i)) (l.drop i) := by
    have hl : (u8s (l.drop i)).length = l.length - i := by simp [u8s_length]
    refine ⟨_, c - i, by rw [hl], by rw [hl]; omega, by omega, fun k u hk => ?_⟩
    rw [← u8s_drop, List.getElem?_drop] at hk
    obtain ⟨ad, rfl, hc⟩ := h3 _ u hk
    have hlt : i + k < (u8s l).length := (List.getElem?_eq_some_iff.1 hk).1
    rw [u8s_length] at hlt
    refine ⟨ad.add i, by rw [if_neg (by omega)]; simp, by rw [add_add']; exact hc⟩
  have b1 : ∀ (y : Nat) (code : BoundsCode) (n : Nat), n ≤ y → (Instr.sliceBound (.int .i64 (n : Int)) y code).run Try.prog w = .ok n w := fun y code n hn => by
    simp [Instr.sliceBound, go_sem]; omega
  refine wpList_runs hgd ?_ (k _ key)
  unfold Runs execOp
  simp [ho, hv, hy, Instr.sliceAt, Instr.slice, run_underlying hu, Instr.sliceBounds, sizeOf, typeInfo, hi0, hsz, b1 l.length .sliceB i hj]

theorem rns_step {k : Nat} {l : List Nat} (h0 : (rd l).2 ≠ 0) (h1 : ¬ 4611686018427387905 < (rd l).1) : rns (k + 1) l = (rns k (rdRest l)).map fun r => ((((rd l).1 : Int) - 1) :: r.1, r.2) := by
  rw [rns, if_neg (by omega)]
theorem rns_none {k : Nat} {l : List Nat} (h : (rd l).2 = 0 ∨ 4611686018427387905 < (rd l).1) : rns (k + 1) l = none := by rw [rns, if_pos h]


set_option maxRecDepth 100000 in
set_option maxHeartbeats 1600000 in
theorem ReadNums_any (v : Value) (l : List Nat) (c : Int) (W : World) (hl : ∀ x ∈ l, x < 256) (h : Byt W v l) (hlen : l.length ≤ 140737488355328) :
    Calls Try.prog 29 #[v, .int .i64 c] W fun e w' => ∃ v1 v2, e = .returned (.tuple #[v1, v2, .int .i64 (rnE (rnO c l))]) ∧ Ints w' v1 (rnV (rnO c l)) ∧ Byt w' v2 (rnR (rnO c l)) ∧ Ext W w' := by
  refine calls_keep ?_
  have no : rnO c l = none → ∀ e w', e = .returned (.tuple #[.slice none 0 0, .slice none 0 0, .int .i64 11]) → Ext W w' → Keep (fun e w' => ∃ v1 v2, e = .returned (.tuple #[v1, v2, .int .i64 (rnE (rnO c l))]) ∧ Ints w' v1 (rnV (rnO c l)) ∧ Byt w' v2 (rnR (rnO c l)) ∧ Ext W w') e w' := by
    intro h0 e w' he hx
    exact Keep.intro ⟨_, _, by rw [he, h0]; rfl, by rw [h0]; exact Ints.nil _, by rw [h0]; exact Byt.nil _, hx⟩
  have No := hide_ no
  clear no
  by_cases hc0 : c < 0
  · have t0 : (decide (c < 0)) = true := by simpa using hc0
    have hno := hide_ (show rnO c l = none from by rw [rnO, if_pos (.inl hc0)])
    clear hc0
    go_enter Try.func29, Try.ntmps29
    go_wp2
    go_ret3
    exact No.out hno.out _ _ rfl (Ext.refl _)
  by_cases hc1 : 64 < c
  · have t0 : (decide (c < 0)) = false := by simpa using hc0
    have t1 : (decide (64 < c)) = true := by simpa using hc1
    have hno := hide_ (show rnO c l = none from by rw [rnO, if_pos (.inr hc1)])
    clear hc0 hc1
    go_enter Try.func29, Try.ntmps29
    go_wp2
    go_ret3
    exact No.out hno.out _ _ rfl (Ext.refl _)
  obtain ⟨m, rfl⟩ := Int.eq_ofNat_of_zero_le (show 0 ≤ c by omega)
  have hm64 : m ≤ 64 := by omega
  have t1 : (decide ((64 : Int) < (m : Int))) = false := by simp; omega
  have HO := hide_ (show rnO (m : Int) l = rns m l from by rw [rnO, if_neg (by omega), Int.toNat_natCast])
  clear hc0 hc1
  go_enter Try.func29, Try.ntmps29
  go_wp2_with (first
      | (fail))
  go_loopw [0, 7, 17] (fun b nv i wr => ∃ (j : Nat) (ys : List Int) (mm : List Nat), i = .int .i64 j ∧ j ≤ m ∧ Byt W b mm ∧ (∀ x ∈ mm, x < 256) ∧ mm.length ≤ 140737488355328 ∧ OwnI W.heap.size wr nv ys ∧ Ext W wr ∧ ys.length = j ∧ Hid (rns m l = (rns (m - j) mm).map fun r => (ys ++ r.1, r.2)))
    (fun _ _ i _ => m - (intOf i).toNat)
  case atStart => exact ⟨0, [], l, rfl, by omega, h, hl, by omega, OwnI.nil _ _, Ext.refl _, rfl, by simp [Hid]⟩
  case round =>
    obtain ⟨j, ys, mm, rfl, hj, hB, hmm, hml, hN, hX, hys, hrns⟩ := hrel
    have hle := rd_le mm hmm
    have hrl := rdRest_len mm
    by_cases hlt : j < m
    · have hj1 : m - j = (m - (j + 1)) + 1 := by omega
      have tj : (decide (j < m)) = true := by simpa using hlt
      by_cases hz : (rd mm).2 = 0
      · have hnone := hide_ (show rnO (m : Int) l = none from by rw [HO.out, hrns.out, hj1, rns_none (.inl hz)]; rfl)
        have tz : (((rd mm).2 : Int) == 0) = true := by simp [hz]
        clear hz hj1
        go_wp2_with (first
          | (go_at_call 33; refine (findNum_any u0 mm _ hmm (hB.ext hX)).mono ?_; rintro e w1 ⟨rfl, rfl⟩))
        go_ret3
        exact No.out hnone.out _ _ rfl hX
      · by_cases hbig : 4611686018427387905 < (rd mm).1
        · have hnone := hide_ (show rnO (m : Int) l = none from by rw [HO.out, hrns.out, hj1, rns_none (.inr hbig)]; rfl)
          have tb : (decide ((4611686018427387905 : Int) < ((rd mm).1 : Int))) = true := by simp; omega
          have tz : (((rd mm).2 : Int) == 0) = false := by rw [beq_eq_false_iff_ne]; omega
          clear hz hbig hj1
          go_wp2_with (first
            | (go_at_call 33; refine (findNum_any u0 mm _ hmm (hB.ext hX)).mono ?_; rintro e w1 ⟨rfl, rfl⟩))
          go_ret3
          exact No.out hnone.out _ _ rfl hX
        · have tb : (decide ((4611686018427387905 : Int) < ((rd mm).1 : Int))) = false := by simp; omega
          have tz : (((rd mm).2 : Int) == 0) = false := by rw [beq_eq_false_iff_ne]; omega
          have c1 : IntKind.i64.wrap ((rd mm).1 : Int) = ((rd mm).1 : Int) := IntWalk.i64_in _ (by omega)
          have c2 : IntKind.i64.wrap (((rd mm).1 : Int) - 1) = ((rd mm).1 : Int) - 1 := IntWalk.i64_in _ (by omega)
          have Hrns := hide_ (show rns m l = (rns (m - (j + 1)) (rdRest mm)).map fun r => ((ys ++ [((rd mm).1 : Int) - 1]) ++ r.1, r.2) from by
            rw [hrns.out, hj1, rns_step hz hbig, Option.map_map]; congr 1; funext r; simp)
          have Hrest := hide_ (show mm.drop (rd mm).2 = rdRest mm from by rw [rdRest, if_neg hz])
          have hym : ys.length ≤ 64 := by omega
          have Hys := hide_ hys
          clear hz hbig hj1 hys
          go_wp2_with (first
            | (go_at_call 33; refine (findNum_any u0 mm _ hmm (hB.ext hX)).mono ?_; rintro e w1 ⟨rfl, rfl⟩)
            | (at_builtin; refine appi (.tmp 30) (.tmp 34) rfl rfl rfl rfl (hN.ext ((Ext.refl _).alloc _)) int_one (by simp; omega) (by have := hX.size; simp; omega) ?_; intro v3 w3 ho3 hb3 hg3 hat3)
            | (refine b_from0 (.tmp 36) (.tmp 37) (rd mm).2 rfl rfl (v := u0) rfl hB rfl hle ?_; intro v4 H4; rw [Hrest.out] at H4))
          go_roundw
          case rel => exact ⟨j + 1, ys ++ [((rd mm).1 : Int) - 1], rdRest mm, by go_num, by omega, H4, rdRest_lt' hmm, by omega, ho3, (show Below _ _ _ from hX).trans (((Below.refl _ _).alloc hX.size _).trans hb3), by rw [List.length_append, Hys.out]; rfl, Hrns.out⟩
          case measure => simp [intOf]; omega
    · have hjm : j = m := by omega
      have hfin : rnO (m : Int) l = some (ys, mm) := by rw [HO.out, hrns.out, hjm, Nat.sub_self, rns]; simp
      have Hfin := hide_ hfin
      have tj : (decide (j < m)) = false := by simpa using hlt
      clear hfin hjm hlt
      go_wp2_with (first
        | (go_at_call 34; refine (Clone_any u0 mm _ (hB.ext hX) hml).mono ?_; rintro e w5 ⟨v5, rfl, ho5, hx5⟩))
      go_ret3
      exact Keep.intro ⟨_, _, by rw [Hfin.out]; rfl, by rw [Hfin.out]; exact hN.ints.ext hx5, by rw [Hfin.out]; exact ho5.byt, hX.trans hx5⟩



set_option maxRecDepth 100000 in
set_option maxHeartbeats 1600000 in
theorem refReadNums_any (v : Value) (l : List Nat) (c : Int) (W : World) (hl : ∀ x ∈ l, x < 256) (h : Byt W v l) (hlen : l.length ≤ 140737488355328) :
    Calls Try.prog 28 #[v, .int .i64 c] W fun e w' => ∃ v1 v2, e = .returned (.tuple #[v1, v2, .int .i64 (rnE (rnO c l))]) ∧ Ints w' v1 (rnV (rnO c l)) ∧ Byt w' v2 (rnR (rnO c l)) ∧ Ext W w' := by
  refine calls_keep ?_
  have no : rnO c l = none → ∀ e w', e = .returned (.tuple #[.slice none 0 0, .slice none 0 0, .int .i64 11]) → Ext W w' → Keep (fun e w' => ∃ v1 v2, e = .returned (.tuple #[v1, v2, .int .i64 (rnE (rnO c l))]) ∧ Ints w' v1 (rnV (rnO c l)) ∧ Byt w' v2 (rnR (rnO c l)) ∧ Ext W w') e w' := by
    intro h0 e w' he hx
    exact Keep.intro ⟨_, _, by rw [he, h0]; rfl, by rw [h0]; exact Ints.nil _, by rw [h0]; exact Byt.nil _, hx⟩
  have No := hide_ no
  clear no
  by_cases hc0 : c < 0
  · have t0 : (decide (c < 0)) = true := by simpa using hc0
    have hno := hide_ (show rnO c l = none from by rw [rnO, if_pos (.inl hc0)])
    clear hc0
    go_enter Try.func28, Try.ntmps28
    go_wp2
    go_ret3
    exact No.out hno.out _ _ rfl (Ext.refl _)
  by_cases hc1 : 64 < c
  · have t0 : (decide (c < 0)) = false := by simpa using hc0
    have t1 : (decide (64 < c)) = true := by simpa using hc1
    have hno := hide_ (show rnO c l = none from by rw [rnO, if_pos (.inr hc1)])
    clear hc0 hc1
    go_enter Try.func28, Try.ntmps28
    go_wp2
    go_ret3
    exact No.out hno.out _ _ rfl (Ext.refl _)
  obtain ⟨m, rfl⟩ := Int.eq_ofNat_of_zero_le (show 0 ≤ c by omega)
  have hm64 : m ≤ 64 := by omega
  have t1 : (decide ((64 : Int) < (m : Int))) = false := by simp; omega
  have HO := hide_ (show rnO (m : Int) l = rns m l from by rw [rnO, if_neg (by omega), Int.toNat_natCast])
  clear hc0 hc1
  go_enter Try.func28, Try.ntmps28
  go_wp2_with (first
      | (fail)
      | (at_builtin; refine appb (.tmp 20) (.tmp 21) rfl rfl rfl rfl (own_empty2 (w := W.alloc (.cells #[] 3)) (by simp)) (h.ext (((Ext.refl _).alloc _).alloc _)) (by simpa using hlen) (by simp) ?_; intro v8 w8 ho8 hb8 hg8; have H8 := ho8.mono (B := W.heap.size) (by simp); have hx8 := ext_alloc_below hb8; have hxs := ((Ext.refl W).alloc (.cells #[] 3)).trans hx8; have HN := (int_empty (w := W)).ext hx8; clear ho8 hb8 hg8))
  go_loopw [8, 7, 9] (fun b nv i wr => ∃ (j : Nat) (ys : List Int) (mm : List Nat), i = .int .i64 j ∧ j ≤ m ∧ OwnB W.heap.size wr b mm ∧ (∀ x ∈ mm, x < 256) ∧ mm.length ≤ 140737488355328 ∧ OwnI W.heap.size wr nv ys ∧ Ext W wr ∧ ys.length = j ∧ Hid (rns m l = (rns (m - j) mm).map fun r => (ys ++ r.1, r.2)))
    (fun _ _ i _ => m - (intOf i).toNat)
  case atStart => exact ⟨0, [], l, rfl, by omega, H8, hl, by omega, HN, hxs, rfl, by simp [Hid]⟩
  case round =>
    obtain ⟨j, ys, mm, rfl, hj, hB, hmm, hml, hN, hX, hys, hrns⟩ := hrel
    have hle := rd_le mm hmm
    have hrl := rdRest_len mm
    by_cases hlt : j < m
    · have hj1 : m - j = (m - (j + 1)) + 1 := by omega
      have tj : (decide (j < m)) = true := by simpa using hlt
      by_cases hz : (rd mm).2 = 0
      · have hnone := hide_ (show rnO (m : Int) l = none from by rw [HO.out, hrns.out, hj1, rns_none (.inl hz)]; rfl)
        have Ez := hide_ (show rdErr mm = 11 from by rw [rdErr, if_pos hz])
        clear hz hj1
        go_wp2_with (first
          | (go_at_call 32; refine (refReadNum_own u8 mm _ hmm hB.byt hml).mono ?_; rintro e w1 ⟨v1, rfl, ho1, hx1⟩; rw [Ez.out]))
        go_ret3
        exact No.out hnone.out _ _ rfl (hX.trans hx1)
      · by_cases hbig : 4611686018427387905 < (rd mm).1
        · have hnone := hide_ (show rnO (m : Int) l = none from by rw [HO.out, hrns.out, hj1, rns_none (.inr hbig)]; rfl)
          have tb : (decide ((4611686018427387905 : Int) < ((rd mm).1 : Int))) = true := by simp; omega
          have Ez := hide_ (show rdErr mm = 0 from by rw [rdErr, if_neg hz])
          clear hz hbig hj1
          go_wp2_with (first
            | (go_at_call 32; refine (refReadNum_own u8 mm _ hmm hB.byt hml).mono ?_; rintro e w1 ⟨v1, rfl, ho1, hx1⟩; rw [Ez.out]))
          go_ret3
          exact No.out hnone.out _ _ rfl (hX.trans hx1)
        · have tb : (decide ((4611686018427387905 : Int) < ((rd mm).1 : Int))) = false := by simp; omega
          have Ez := hide_ (show rdErr mm = 0 from by rw [rdErr, if_neg hz])
          have c1 : IntKind.i64.wrap ((rd mm).1 : Int) = ((rd mm).1 : Int) := IntWalk.i64_in _ (by omega)
          have c2 : IntKind.i64.wrap (((rd mm).1 : Int) - 1) = ((rd mm).1 : Int) - 1 := IntWalk.i64_in _ (by omega)
          have Hrns := hide_ (show rns m l = (rns (m - (j + 1)) (rdRest mm)).map fun r => ((ys ++ [((rd mm).1 : Int) - 1]) ++ r.1, r.2) from by
            rw [hrns.out, hj1, rns_step hz hbig, Option.map_map]; congr 1; funext r; simp)
          have Hrest := hide_ (show mm.drop (rd mm).2 = rdRest mm from by rw [rdRest, if_neg hz])
          have hym : ys.length ≤ 64 := by omega
          have Hys := hide_ hys
          clear hz hbig hj1 hys
          go_wp2_with (first
            | (go_at_call 32; refine (refReadNum_own u8 mm _ hmm hB.byt hml).mono ?_; rintro e w1 ⟨v1, rfl, ho1, hx1⟩; rw [Ez.out])
            | (at_builtin; refine appi (.tmp 40) (.tmp 44) rfl rfl rfl rfl ((hN.ext hx1).ext ((Ext.refl _).alloc _)) int_one (by simp; omega) (by have := hX.size; have := hx1.size; simp; omega) ?_; intro v3 w3 ho3 hb3 hg3 hat3))
          go_roundw
          case rel => exact ⟨j + 1, ys ++ [((rd mm).1 : Int) - 1], rdRest mm, by go_num, by omega, ((ho1.ext ((Ext.refl _).alloc _)).kept hg3 (own_apart ho1 (hN.ext hx1))).mono hX.size, rdRest_lt' hmm, by omega, ho3, (show Below _ _ _ from hX.trans hx1).trans (((Below.refl _ _).alloc (hX.trans hx1).size _).trans hb3), by rw [List.length_append, Hys.out]; rfl, Hrns.out⟩
          case measure => simp [intOf]; omega
    · have hjm : j = m := by omega
      have hfin : rnO (m : Int) l = some (ys, mm) := by rw [HO.out, hrns.out, hjm, Nat.sub_self, rns]; simp
      have Hfin := hide_ hfin
      have tj : (decide (j < m)) = false := by simpa using hlt
      clear hfin hjm hlt
      go_wp2_with (first
        | fail)
      go_ret3
      exact Keep.intro ⟨_, _, by rw [Hfin.out]; rfl, by rw [Hfin.out]; exact hN.ints, by rw [Hfin.out]; exact hB.byt, hX⟩

end Go.Proofs.Ytabbgnlabiakoaa
