/- The statement TxApart: unlike lists have unlike bytes; one alone is read as itself. No condition. -/
import Derived.Test.YtabbgnlabiakoaaXTells
import Derived.Test.YtabbgnlabiakoaaStr
namespace Go.Proofs.Ytabbgnlabiakoaa
open Go.RowKit Go.ChangeShapes Go.WideShapes Go.ChangeAt

theorem lsB_str {l m : List TxD} (hl : LsOk l) (hm : LsOk m) {q : Bool} (h : decide (l = m) = q) : ((strN (lsB l)).toList == (strN (lsB m)).toList) = q := by
  subst h
  by_cases h : l = m
  · subst h; simp
  · rw [decide_eq_false h, beq_eq_false_iff_ne]
    exact strN_ne' (nuL_lt _) (nuL_lt _) fun e => h (lsB_inj hl hm e)
theorem nuL_nums_len {d : TxD} (h : d.Right) : (nuL d.nums).length ≤ 20 := by
  have := nuL_len d.nums fun x hx => by have := h.rdb x hx; omega
  simpa [TxD.nums] using this

set_option maxRecDepth 100000 in
set_option maxHeartbeats 3200000 in
theorem txApart_law (va : Value) (la : List TxD) (vb : Value) (lb : List TxD) (W : World) (ha0 : Recs 2 TxR W va la) (hb0 : Recs 2 TxR W vb lb) :
    Calls Try.prog 9 #[va, vb] W fun e w' => e = .returned (.bool true) ∧ Ext W w' := by
  refine calls_keep ?_
  have hmax : la.length ≤ 9223372036854775807 := by have := ha0.len_le; unfold maxLen at this; omega
  have ha := hide_ ha0
  have hb := hide_ hb0
  clear ha0 hb0
  by_cases hoa : LsOk la
  · have Ea := hide_ (show tlE la = 0 from if_pos hoa)
    have Ba := hide_ (show tlB la = lsB la from if_pos hoa)
    by_cases hob : LsOk lb
    · have Eb := hide_ (show tlE lb = 0 from if_pos hob)
      have Bb := hide_ (show tlB lb = lsB lb from if_pos hob)
      obtain ⟨q, hq⟩ : ∃ q, decide (la = lb) = q := ⟨_, rfl⟩
      have hst := lsB_str hoa hob hq
      have hoa' := hide_ hoa
      replace hq := hide_ hq
      clear hoa hob
      go_enter Try.func9, Try.ntmps9
      go_wp2_with (first
        | (go_at_call 11; refine (alive_any _).mono ?_; rintro e w1 ⟨rfl, hX⟩)
        | (go_at_call 18; ((with_reducible refine (TList_any (v := va) (ha.out.ext TxR.stays hX)).mono ?_); rintro e w2 ⟨v5, rfl, o5, hx⟩; rw [Ea.out]; rw [Ba.out] at o5; have b5 := o5.byt; replace hX := hX.trans hx; clear o5 hx))
        | (go_at_call 18; ((with_reducible refine (TList_any (v := vb) (hb.out.ext TxR.stays hX)).mono ?_); rintro e w3 ⟨v7, rfl, o7, hx⟩; rw [Eb.out]; rw [Bb.out] at o7; have b7 := o7.byt; replace b5 := b5.ext hx; replace hX := hX.trans hx; clear o7 hx))
        | fail)
      refine wp_region_phx (by kernel_rfl) ?_; intro wd hxd; replace b5 := b5.ext hxd; replace b7 := b7.ext hxd; replace hX := hX.trans hxd; have ha1 := ha.out.ext TxR.stays hX; have hb1 := hb.out.ext TxR.stays hX
      refine Ph.rest 0 9 (by kernel_rfl) ?_
      refine LinL.step (s := (.val (v5))) [(5, none)] rfl (by kernel_rfl) (op_out 5 (v5) rfl (.inl rfl) rfl) ?_
      refine LinL.step (s := (.val (.string (strN (lsB la))))) [(49, some 0)] rfl (by kernel_rfl) (op_runs rfl fun σ w' hx hg => ⟨_, runs_str (ρ := σ.eval) (w := w') (.tmp 49) rfl hg.1 (b5.ext hx), rfl⟩) ?_
      refine LinL.step (s := (.val (v7))) [(7, none)] rfl (by kernel_rfl) (op_out 7 (v7) rfl (.inl rfl) rfl) ?_
      refine LinL.step (s := (.val (.string (strN (lsB lb))))) [(51, some 0)] rfl (by kernel_rfl) (op_runs rfl fun σ w' hx hg => ⟨_, runs_str (ρ := σ.eval) (w := w') (.tmp 51) rfl hg.1 (b7.ext hx), rfl⟩) ?_
      refine LinL.step (s := (.val (.bool q))) [(50, some 2), (52, some 0)] rfl (by kernel_rfl) (op_runs rfl fun σ w' hx hg => ⟨(.bool q), by have h50 : σ.tmps.getD 50 undef = .string (strN (lsB la)) := hg.1; have h52 : σ.tmps.getD 52 undef = .string (strN (lsB lb)) := hg.2.1; unfold Runs execOp; simp [Act.eval, h50, h52, go_sem, hst], rfl⟩) ?_
      refine LinL.step (s := (.val (va))) [(0, none)] rfl (by kernel_rfl) (op_out 0 (va) rfl (.inl rfl) rfl) ?_
      refine LinL.step (s := (.val (vb))) [(1, none)] rfl (by kernel_rfl) (op_out 1 (vb) rfl (.inl rfl) rfl) ?_
      refine LinL.step (s := (.val (.bool q))) [(54, some 1), (55, some 0)] rfl (by kernel_rfl) (op_calls 23 #[(.tmp 54), (.tmp 55)] #[35, 35] (fun σ => #[va, vb]) rfl rfl (fun _ _ => rfl) fun σ w' hx hg => ⟨by have h54 : σ.tmps.getD 54 undef = va := hg.1; have h55 : σ.tmps.getD 55 undef = vb := hg.2.1; simp only [List.map_toArray, List.map_cons, List.map_nil, Act.eval, h54, h55], retR (hq.out ▸ Same_any (ha1.ext TxR.stays hx) (hb1.ext TxR.stays hx))⟩) ?_
      refine LinL.step (s := (.val (.bool false))) [(53, some 3), (56, some 0)] rfl (by kernel_rfl) (op_runs rfl fun σ w' hx hg => ⟨(.bool false), by have h53 : σ.tmps.getD 53 undef = .bool q := hg.1; have h56 : σ.tmps.getD 56 undef = .bool q := hg.2.1; unfold Runs execOp; simp [Act.eval, h53, h56, go_sem], rfl⟩) ?_
      intro wN hxN
      simp only [Fin', List.reverse_cons, List.reverse_nil, List.nil_append, List.cons_append, List.drop_zero, List.take_succ_cons, List.take_zero]
      simp only [Act.put, List.setIfInBounds_toArray, List.set_cons_zero, List.set_cons_succ]
      replace hX := hX.trans hxN
      clear hxN hxd hst b5 b7 hb Bb Ba Eb Ea hq
      go_wp2_with ((first
        | (refine w_rlen Try.elTx _ rfl rfl (v := va) rfl (ha.out.ext TxR.stays hX) ?_)
        | fail) <;> (try simp only [Act.put, List.setIfInBounds_toArray, List.set_cons_zero, List.set_cons_succ]))
      go_loopw [60] (fun i wr => ∃ k : Nat, i = .int .i64 k ∧ k ≤ la.length ∧ Ext W wr) (fun i _ => la.length - (intOf i).toNat)
      case atStart => exact ⟨0, rfl, Nat.zero_le _, hX⟩
      case round =>
        clear hX
        obtain ⟨k, rfl, hk, hX⟩ := hrel
        by_cases hge : la.length ≤ k
        · have t2 : decide (k < la.length) = false := by simpa using hge
          clear hge
          go_wp2
          go_ret
          exact Keep.intro ⟨rfl, hX⟩
        have hlt : k < la.length := by omega
        have t2 : decide (k < la.length) = true := by simpa using hlt
        obtain ⟨d, hd⟩ : ∃ d, la[k] = d := ⟨_, rfl⟩
        have hdr := hide_ (hoa'.out.right d (hd ▸ List.getElem_mem hlt))
        have hrd := hide_ (rdTx_yes hdr.out)
        have hz256 := hide_ (nuL_lt d.nums)
        have hzlen := hide_ (show (nuL d.nums).length ≤ 140737488355328 from by have := nuL_nums_len hdr.out; omega)
        have hlk := hide_ hd
        clear hd hge
        go_wp2_with ((first
          | (go_at_call 12; refine (TBytes_yes hdr.out _).mono ?_; rintro e w6 ⟨v11, rfl, o11, hx⟩; have b11 := o11.byt; replace f10 := f10.ext hx; replace hX := hX.trans hx; clear o11 hx)
          | (go_at_call 10; refine (TRead_yes hrd.out hz256.out hzlen.out b11).mono ?_; rintro e w7 ⟨rfl, hx⟩; replace f10 := f10.ext hx; replace hX := hX.trans hx; clear hx b11)
          | (refine w_ridx0 Try.elTx _ _ k TxR.stays rfl rfl (v := va) rfl rfl ha.out hX hlt ?_; rintro p row hrow hrl ⟨rfl, hraw⟩; rw [hlk.out] at hrow)
          | (refine w_pload Try.stTx _ rfl rfl rfl (hrow.ext hX) rfl ?_)
          | (refine w_alloc (o := ⟨some 10, _, _, _, _, _⟩) Try.stTx rfl rfl ?_; intro g10 w4 hg10 hx4 f10)
          | (refine w_astore Try.stTx (us := [.int .i64 d.id, .int .i64 d.fee]) _ _ rfl rfl rfl rfl rfl f10 rfl rfl d.one ?_; intro w5 hm5 f5; replace f10 := f5; replace hX := hX.trans (hm5.after hx4 (fun i e => e ▸ hg10)); clear f5 hm5 hx4 hg10 hrow hrl hraw)
          | (refine w_alloc (o := ⟨some 13, _, _, _, _, _⟩) Try.stTx rfl rfl ?_; intro g13 w8 hg13 hx8 f13; have n13 : ¬ g10 = g13 := (by have := f10.lt; omega); replace f10 := f10.ext hx8)
          | (refine w_astore Try.stTx (us := [.int .i64 d.id, .int .i64 d.fee]) _ _ rfl rfl rfl rfl rfl f13 rfl rfl d.one ?_; intro w9 hm9 f9; replace f13 := f9; replace f10 := f10.mod hm9 n13; replace hX := hX.trans (hm9.after hx8 (fun i e => e ▸ hg13)); clear f9 hm9 hx8 hg13 n13)
          | ((try refine w_yes _ _ _ rfl rfl rfl ?_); refine w_aload Try.stTx _ rfl rfl rfl f10 rfl ?_)
          | ((try refine w_yes _ _ _ rfl rfl rfl ?_); refine w_aload Try.stTx _ rfl rfl rfl f13 rfl ?_)
          | ((try refine w_yes _ _ _ rfl rfl rfl ?_); refine w_txne _ _ d d rfl rfl rfl rfl ?_)
          | fail) <;> (try simp only [Act.put, List.setIfInBounds_toArray, List.set_cons_zero, List.set_cons_succ]))
        go_roundw
        case rel => exact ⟨k + 1, by go_num, by omega, hX⟩
        case measure => simp [intOf]; omega
    · have Eb := hide_ (show tlE lb = 61 from if_neg hob)
      have Bb := hide_ (show tlB lb = [] from if_neg hob)
      clear hoa hob
      go_enter Try.func9, Try.ntmps9
      go_wp2_with ((first
        | (go_at_call 11; refine (alive_any _).mono ?_; rintro e w1 ⟨rfl, hX⟩)
        | (go_at_call 18; ((with_reducible refine (TList_any (v := va) (ha.out.ext TxR.stays hX)).mono ?_); rintro e w2 ⟨v5, rfl, o5, hx⟩; rw [Ea.out]; rw [Ba.out] at o5; have b5 := o5.byt; replace hX := hX.trans hx; clear o5 hx))
        | (go_at_call 18; ((with_reducible refine (TList_any (v := vb) (hb.out.ext TxR.stays hX)).mono ?_); rintro e w3 ⟨v7, rfl, o7, hx⟩; rw [Eb.out]; rw [Bb.out] at o7; have b7 := o7.byt; replace b5 := b5.ext hx; replace hX := hX.trans hx; clear o7 hx))
        | ((try refine w_yes _ _ _ rfl rfl rfl ?_); refine b_len _ rfl rfl (v := v5) rfl b5 ?_)
        | ((try refine w_yes _ _ _ rfl rfl rfl ?_); refine b_len _ rfl rfl (v := v7) rfl b7 ?_)
        | fail) <;> (try simp only [Act.put, List.setIfInBounds_toArray, List.set_cons_zero, List.set_cons_succ]))
      go_ret
      exact Keep.intro ⟨rfl, hX⟩
  · have Ea := hide_ (show tlE la = 61 from if_neg hoa)
    have Ba := hide_ (show tlB la = [] from if_neg hoa)
    by_cases hob : LsOk lb
    · have Eb := hide_ (show tlE lb = 0 from if_pos hob)
      have Bb := hide_ (show tlB lb = lsB lb from if_pos hob)
      clear hoa hob
      go_enter Try.func9, Try.ntmps9
      go_wp2_with ((first
        | (go_at_call 11; refine (alive_any _).mono ?_; rintro e w1 ⟨rfl, hX⟩)
        | (go_at_call 18; ((with_reducible refine (TList_any (v := va) (ha.out.ext TxR.stays hX)).mono ?_); rintro e w2 ⟨v5, rfl, o5, hx⟩; rw [Ea.out]; rw [Ba.out] at o5; have b5 := o5.byt; replace hX := hX.trans hx; clear o5 hx))
        | (go_at_call 18; ((with_reducible refine (TList_any (v := vb) (hb.out.ext TxR.stays hX)).mono ?_); rintro e w3 ⟨v7, rfl, o7, hx⟩; rw [Eb.out]; rw [Bb.out] at o7; have b7 := o7.byt; replace b5 := b5.ext hx; replace hX := hX.trans hx; clear o7 hx))
        | ((try refine w_yes _ _ _ rfl rfl rfl ?_); refine b_len _ rfl rfl (v := v5) rfl b5 ?_)
        | ((try refine w_yes _ _ _ rfl rfl rfl ?_); refine b_len _ rfl rfl (v := v7) rfl b7 ?_)
        | fail) <;> (try simp only [Act.put, List.setIfInBounds_toArray, List.set_cons_zero, List.set_cons_succ]))
      go_ret
      exact Keep.intro ⟨rfl, hX⟩
    · have Eb := hide_ (show tlE lb = 61 from if_neg hob)
      have Bb := hide_ (show tlB lb = [] from if_neg hob)
      clear hoa hob
      go_enter Try.func9, Try.ntmps9
      go_wp2_with ((first
        | (go_at_call 11; refine (alive_any _).mono ?_; rintro e w1 ⟨rfl, hX⟩)
        | (go_at_call 18; ((with_reducible refine (TList_any (v := va) (ha.out.ext TxR.stays hX)).mono ?_); rintro e w2 ⟨v5, rfl, o5, hx⟩; rw [Ea.out]; rw [Ba.out] at o5; have b5 := o5.byt; replace hX := hX.trans hx; clear o5 hx))
        | (go_at_call 18; ((with_reducible refine (TList_any (v := vb) (hb.out.ext TxR.stays hX)).mono ?_); rintro e w3 ⟨v7, rfl, o7, hx⟩; rw [Eb.out]; rw [Bb.out] at o7; have b7 := o7.byt; replace b5 := b5.ext hx; replace hX := hX.trans hx; clear o7 hx))
        | ((try refine w_yes _ _ _ rfl rfl rfl ?_); refine b_len _ rfl rfl (v := v5) rfl b5 ?_)
        | ((try refine w_yes _ _ _ rfl rfl rfl ?_); refine b_len _ rfl rfl (v := v7) rfl b7 ?_)
        | fail) <;> (try simp only [Act.put, List.setIfInBounds_toArray, List.set_cons_zero, List.set_cons_succ]))
      go_ret
      exact Keep.intro ⟨rfl, hX⟩

set_option maxRecDepth 100000 in
theorem txApart_lifted (os : Os) (started : os.Started) (H : Type) (enc : TypeId × Value → H) :
    ReturnsInHanded {} Try.checked os 9 .any (Rows.txApartSpec.pre6 enc Try.prog Try.f9 Rows.txApartRow.domain false) (Rows.txApartSpec.post enc Try.prog Try.f9 false true false false) := by
  refine law_lifted (s := Rows.txApartSpec) (conds := Rows.txApartRow.domain) Try.func9 (by kernel_rfl) rfl (fun H ds h => by
      rw [show Try.f9.params.size = 2 from rfl] at h
      match ds, h with
      | [d0, d1], _ => rfl) rfl rfl (by decide +kernel) os started H enc
    (ChangeSpec.witness6 (enc := enc) (C := Try.checked) false ⟨#[], #[.slice none 0 0, .slice none 0 0], []⟩ 8 (by kernel_rfl) (by kernel_rfl) (by kernel_rfl) (by kernel_rfl)) ?_
  intro W base args ds p hval hA hsz _
  have hp : Try.f9.params.toList = [35, 35] := rfl
  rw [hp] at hA hsz
  obtain ⟨v0, v1, d0, d1, p0, p1, rfl, rfl, rfl, h0, h1⟩ := trodAll_two hA
  obtain ⟨l0, a0, b0⟩ := arg_TxsL hsz (j := 0) rfl rfl (hval 0 35 v0 rfl rfl) h0
  rw [show Try.prog.bytesOf 23 = 16 from by kernel_rfl] at b0
  obtain ⟨l1, a1, b1⟩ := arg_TxsL hsz (j := 1) rfl rfl (hval 1 35 v1 rfl rfl) h1
  rw [show Try.prog.bytesOf 23 = 16 from by kernel_rfl] at b1
  exact txApart_law v0 l0 v1 l1 W a0 a1

theorem txApart_holds : Rows.TxApartSaid :=
  OpenClaim.holds_of_wide 9 Try.f9 rfl rfl rfl rfl rfl rfl rfl ⟨rfl, rfl, rfl, rfl, rfl⟩ rfl rfl rfl rfl rfl (by kernel_rfl) Try.func9 (by kernel_rfl)
    (of_decide_eq_true (by kernel_rfl)) (by unfold Func.isWrapper; first | (rw [if_pos (by decide +kernel)]; kernel_rfl) | (rw [if_neg (by decide +kernel)]; exact ⟨rfl, rfl⟩))
    (fun os started H enc _ => txApart_lifted os started H enc)
#print axioms txApart_holds

end Go.Proofs.Ytabbgnlabiakoaa
