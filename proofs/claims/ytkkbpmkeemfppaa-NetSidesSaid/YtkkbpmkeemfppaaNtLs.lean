/- NetSides returns true: who is on one side with whom, and to whom a packet goes, is what the document says. No condition: any mask, any numbers. -/
import Derived.Test.YtkkbpmkeemfppaaNtLa
import Derived.Test.YtkkbpmkeemfppaaArr3
namespace Go.Proofs.Ytkkbpmkeemfppaa
open Go.RowKit Go.ChangeShapes Go.WideShapes Go.ChangeAt

section
variable {H : Type} {enc : TypeId × Value → H} {P : Program} {W : World} {base b0 : Nat} {sp : Nat → Bool} {held : Bool} {v : Value} {d : DataW H} {ps : List MemPlace}
theorem open_int_array2 {t e : TypeId} {q : IntKind} (hu : P.underlying t = some (.array 2 e)) (he : P.underlying e = some (.int q)) (ce : P.cellsOf e = 1) (ct : P.cellsOf t = 2)
    (hval : Value.okWide P W .any base t v) (h : DataW.Trod enc P W b0 sp held t v d ps) : ∃ x y : Int, v = .agg #[.int q x, .int q y] ∧ (Lit.int q x).wf = true ∧ (Lit.int q y).wf = true := by
  obtain ⟨zs, rfl, hl, hw⟩ := open_int_array hu he ce ct hval h
  match zs, hl with
  | [x, y], _ => exact ⟨x, y, rfl, hw x (by simp), hw y (by simp)⟩
end
set_option maxRecDepth 100000 in
set_option maxHeartbeats 3200000 in
theorem netSides_law (m a b x y z : Int) (w : World) (hz0 : -9223372036854775808 ≤ z) : Calls Try.prog 5 #[.int .i64 m, .agg #[.int .i64 a, .int .i64 b], .agg #[.int .i64 x, .int .i64 y, .int .i64 z]] w fun e w' => e = .returned (.bool true) ∧ Ext w w' := by
  refine calls_keep ?_
  have hz := hide_ hz0
  obtain ⟨q, hq0⟩ : ∃ q, sameM (bitM m) a b = q := ⟨_, rfl⟩
  have hq := hide_ hq0
  have hX := Ext.refl w
  clear hz0 hq0
  go_enter Try.func5, Try.ntmps5
  go_wp2_with ((first
    | ((with_reducible refine at_box ?_); refine w_box _ [.int .i64 a, .int .i64 b] rfl rfl rfl rfl ?_; intro g4 w1 hg4 hx f4; replace f4 := hide_ f4; replace hX := hX.trans hx; clear hx hg4)
    | ((with_reducible refine at_box ?_); refine w_box _ [.int .i64 x, .int .i64 y, .int .i64 z] rfl rfl rfl rfl ?_; intro g5 w2 hg5 hx f5; replace f5 := hide_ f5; replace f4 := hide_ (f4.out.ext hx); replace hX := hX.trans hx; clear hx hg5)
    | (go_at_call 12; refine (netAlive_any _).mono ?_; rintro e w4 ⟨rfl, hx⟩; replace f4 := hide_ (f4.out.ext hx); replace f5 := hide_ (f5.out.ext hx); replace hX := hX.trans hx; clear hx)
    | (go_at_call 9; refine (SNew_any).mono ?_; rintro e w4 ⟨p, rfl, fs, hx, hp⟩; replace fs := hide_ fs; have n4 := hide_ (show ¬ g4 = p from fun e => absurd f4.out.lt (by omega)); have n5 := hide_ (show ¬ g5 = p from fun e => absurd f5.out.lt (by omega)); replace f4 := hide_ (f4.out.ext hx); replace f5 := hide_ (f5.out.ext hx); replace hp := hide_ (Nat.le_trans hX.size hp); replace hX := hX.trans hx; clear hx)
    | (go_at_call 23; refine (SCut_any (m := m) fs.out).mono ?_; rintro e w4 ⟨rfl, fs', hm⟩; replace fs := hide_ fs'; replace f4 := hide_ (f4.out.mod hm n4.out); replace f5 := hide_ (f5.out.mod hm n5.out); replace hX := hm.after hX (fun k hk => hk ▸ hp.out); clear fs' hm)
    | fail) <;> (try simp only [Act.put, List.setIfInBounds_toArray, List.set_cons_zero, List.set_cons_succ]))
  refine wp_region_phx (by kernel_rfl) ?_; intro wd hxd; have F4 := f4.out.ext hxd; have F5 := f5.out.ext hxd; have FS := fs.out.ext hxd
  refine Ph.rest 0 31 (by kernel_rfl) ?_
  refine LinL.step (s := (.val (.pointer (some ⟨p, 0, none⟩)))) [(7, none)] rfl (by kernel_rfl) (op_out 7 (.pointer (some ⟨p, 0, none⟩)) rfl (.inl rfl) rfl) ?_
  refine LinL.step (s := (.val (.pointer (some ⟨g4, 0, none⟩)))) [(4, none)] rfl (by kernel_rfl) (op_runs rfl fun σ w' hx hg => ⟨_, runs_ar (ρ := σ.eval) (w := w') (i := 0) Try.underlying46 (by kernel_rfl) (.tmp 4) (.const (.int .i64 0)) rfl hg.1 rfl (by omega), rfl⟩) ?_
  refine LinL.step (s := (.val (.int .i64 a))) [(15, some 0)] rfl (by kernel_rfl) (op_runs rfl fun σ w' hx hg => ⟨_, runs_fload (ρ := σ.eval) (w := w') (.tmp 15) rfl hg.1 (agg_of (by kernel_rfl) _) (F4.ext hx) rfl, rfl⟩) ?_
  refine LinL.step (s := (.val (.pointer (some ⟨g4, 1, none⟩)))) [(4, none)] rfl (by kernel_rfl) (op_runs rfl fun σ w' hx hg => ⟨_, runs_ar (ρ := σ.eval) (w := w') (i := 1) Try.underlying46 (by kernel_rfl) (.tmp 4) (.const (.int .i64 1)) rfl hg.1 rfl (by omega), rfl⟩) ?_
  refine LinL.step (s := (.val (.int .i64 b))) [(17, some 0)] rfl (by kernel_rfl) (op_runs rfl fun σ w' hx hg => ⟨_, runs_fload (ρ := σ.eval) (w := w') (.tmp 17) rfl hg.1 (agg_of (by kernel_rfl) _) (F4.ext hx) rfl, rfl⟩) ?_
  refine LinL.step (s := (.val (.bool q))) [(14, some 4), (16, some 2), (18, some 0)] rfl (by kernel_rfl) (op_calls 13 #[(.tmp 14), (.tmp 16), (.tmp 18)] #[22, 3, 3] (fun σ => #[.pointer (some ⟨p, 0, none⟩), .int .i64 a, .int .i64 b]) rfl rfl (fun _ _ => rfl) fun σ w' hx hg => ⟨by have h14 : σ.tmps.getD 14 undef = .pointer (some ⟨p, 0, none⟩) := hg.1; have h16 : σ.tmps.getD 16 undef = .int .i64 a := hg.2.1; have h18 : σ.tmps.getD 18 undef = .int .i64 b := hg.2.2.1; simp only [List.map_toArray, List.map_cons, List.map_nil, Act.eval, h14, h16, h18], retF (SSame_any (FS.ext hx) hq.out)⟩) ?_
  refine LinL.step (s := (.val (.int .i64 m))) [(0, none)] rfl (by kernel_rfl) (op_out 0 (.int .i64 m) rfl (.inl rfl) rfl) ?_
  refine LinL.step (s := (.val (.pointer (some ⟨g4, 0, none⟩)))) [(4, none)] rfl (by kernel_rfl) (op_runs rfl fun σ w' hx hg => ⟨_, runs_ar (ρ := σ.eval) (w := w') (i := 0) Try.underlying46 (by kernel_rfl) (.tmp 4) (.const (.int .i64 0)) rfl hg.1 rfl (by omega), rfl⟩) ?_
  refine LinL.step (s := (.val (.int .i64 a))) [(21, some 0)] rfl (by kernel_rfl) (op_runs rfl fun σ w' hx hg => ⟨_, runs_fload (ρ := σ.eval) (w := w') (.tmp 21) rfl hg.1 (agg_of (by kernel_rfl) _) (F4.ext hx) rfl, rfl⟩) ?_
  refine LinL.step (s := (.val (.pointer (some ⟨g4, 1, none⟩)))) [(4, none)] rfl (by kernel_rfl) (op_runs rfl fun σ w' hx hg => ⟨_, runs_ar (ρ := σ.eval) (w := w') (i := 1) Try.underlying46 (by kernel_rfl) (.tmp 4) (.const (.int .i64 1)) rfl hg.1 rfl (by omega), rfl⟩) ?_
  refine LinL.step (s := (.val (.int .i64 b))) [(23, some 0)] rfl (by kernel_rfl) (op_runs rfl fun σ w' hx hg => ⟨_, runs_fload (ρ := σ.eval) (w := w') (.tmp 23) rfl hg.1 (agg_of (by kernel_rfl) _) (F4.ext hx) rfl, rfl⟩) ?_
  refine LinL.step (s := (.val (.bool q))) [(20, some 4), (22, some 2), (24, some 0)] rfl (by kernel_rfl) (op_calls 24 #[(.tmp 20), (.tmp 22), (.tmp 24)] #[3, 3, 3] (fun σ => #[.int .i64 m, .int .i64 a, .int .i64 b]) rfl rfl (fun _ _ => rfl) fun σ w' hx hg => ⟨by have h20 : σ.tmps.getD 20 undef = .int .i64 m := hg.1; have h22 : σ.tmps.getD 22 undef = .int .i64 a := hg.2.1; have h24 : σ.tmps.getD 24 undef = .int .i64 b := hg.2.2.1; simp only [List.map_toArray, List.map_cons, List.map_nil, Act.eval, h20, h22, h24], retF (refSame_any hq.out)⟩) ?_
  refine LinL.step (s := (.val (.bool true))) [(19, some 6), (25, some 0)] rfl (by kernel_rfl) (op_runs rfl fun σ w' hx hg => ⟨_, runs_beqq (ρ := σ.eval) (w := w') (.tmp 19) (.tmp 25) Try.underlying4 rfl hg.1 hg.2.1, rfl⟩) ?_
  refine LinL.step (s := (.val (.bool true))) [(26, some 0)] rfl (by kernel_rfl) (op_copy 26 0 (.val (.bool true)) rfl (.inl rfl) rfl) ?_
  refine LinL.step (s := (.val (.pointer (some ⟨g5, 0, none⟩)))) [(5, none), (27, some 0)] rfl (by kernel_rfl) (op_yes (reads := [(5, none)]) 13 27 0 true rfl rfl rfl (op_runs rfl fun σ w' hx hg => ⟨_, runs_ar (ρ := σ.eval) (w := w') (i := 0) Try.underlying47 (by kernel_rfl) (.tmp 5) (.const (.int .i64 0)) rfl hg.1 rfl (by omega), rfl⟩)) ?_
  refine LinL.step (s := (.val (.int .i64 x))) [(28, some 0), (27, some 1)] rfl (by kernel_rfl) (op_yes (reads := [(28, some 0)]) 13 27 1 true rfl rfl rfl (op_runs rfl fun σ w' hx hg => ⟨_, runs_fload (ρ := σ.eval) (w := w') (.tmp 28) rfl hg.1 (agg_of (by kernel_rfl) _) (F5.ext hx) rfl, rfl⟩)) ?_
  refine LinL.step (s := (.val (.pointer (some ⟨g5, 1, none⟩)))) [(5, none), (27, some 2)] rfl (by kernel_rfl) (op_yes (reads := [(5, none)]) 13 27 2 true rfl rfl rfl (op_runs rfl fun σ w' hx hg => ⟨_, runs_ar (ρ := σ.eval) (w := w') (i := 1) Try.underlying47 (by kernel_rfl) (.tmp 5) (.const (.int .i64 1)) rfl hg.1 rfl (by omega), rfl⟩)) ?_
  refine LinL.step (s := (.val (.int .i64 y))) [(30, some 0), (27, some 3)] rfl (by kernel_rfl) (op_yes (reads := [(30, some 0)]) 13 27 3 true rfl rfl rfl (op_runs rfl fun σ w' hx hg => ⟨_, runs_fload (ρ := σ.eval) (w := w') (.tmp 30) rfl hg.1 (agg_of (by kernel_rfl) _) (F5.ext hx) rfl, rfl⟩)) ?_
  refine LinL.step (s := (.val (.pointer (some ⟨g5, 2, none⟩)))) [(5, none), (27, some 4)] rfl (by kernel_rfl) (op_yes (reads := [(5, none)]) 13 27 4 true rfl rfl rfl (op_runs rfl fun σ w' hx hg => ⟨_, runs_ar (ρ := σ.eval) (w := w') (i := 2) Try.underlying47 (by kernel_rfl) (.tmp 5) (.const (.int .i64 2)) rfl hg.1 rfl (by omega), rfl⟩)) ?_
  refine LinL.step (s := (.val (.int .i64 z))) [(32, some 0), (27, some 5)] rfl (by kernel_rfl) (op_yes (reads := [(32, some 0)]) 13 27 5 true rfl rfl rfl (op_runs rfl fun σ w' hx hg => ⟨_, runs_fload (ρ := σ.eval) (w := w') (.tmp 32) rfl hg.1 (agg_of (by kernel_rfl) _) (F5.ext hx) rfl, rfl⟩)) ?_
  refine LinL.step (s := (Sp.oi wd.heap.size (spr x y z))) [(29, some 4), (31, some 2), (33, some 0), (27, some 6)] rfl (by kernel_rfl) (op_yes (reads := [(29, some 4), (31, some 2), (33, some 0)]) 13 27 6 true rfl rfl rfl (op_calls 26 #[(.tmp 29), (.tmp 31), (.tmp 33)] #[3, 3, 3] (fun σ => #[.int .i64 x, .int .i64 y, .int .i64 z]) rfl rfl (fun _ _ => rfl) fun σ w' hx hg => ⟨by have h29 : σ.tmps.getD 29 undef = .int .i64 x := hg.1; have h31 : σ.tmps.getD 31 undef = .int .i64 y := hg.2.1; have h33 : σ.tmps.getD 33 undef = .int .i64 z := hg.2.2.1; simp only [List.map_toArray, List.map_cons, List.map_nil, Act.eval, h29, h31, h33], retO hx.size (Spread_any hz.out)⟩)) ?_
  refine LinL.step (s := (.val (.pointer (some ⟨g5, 0, none⟩)))) [(5, none), (27, some 7)] rfl (by kernel_rfl) (op_yes (reads := [(5, none)]) 13 27 7 true rfl rfl rfl (op_runs rfl fun σ w' hx hg => ⟨_, runs_ar (ρ := σ.eval) (w := w') (i := 0) Try.underlying47 (by kernel_rfl) (.tmp 5) (.const (.int .i64 0)) rfl hg.1 rfl (by omega), rfl⟩)) ?_
  refine LinL.step (s := (.val (.int .i64 x))) [(35, some 0), (27, some 8)] rfl (by kernel_rfl) (op_yes (reads := [(35, some 0)]) 13 27 8 true rfl rfl rfl (op_runs rfl fun σ w' hx hg => ⟨_, runs_fload (ρ := σ.eval) (w := w') (.tmp 35) rfl hg.1 (agg_of (by kernel_rfl) _) (F5.ext hx) rfl, rfl⟩)) ?_
  refine LinL.step (s := (.val (.pointer (some ⟨g5, 1, none⟩)))) [(5, none), (27, some 9)] rfl (by kernel_rfl) (op_yes (reads := [(5, none)]) 13 27 9 true rfl rfl rfl (op_runs rfl fun σ w' hx hg => ⟨_, runs_ar (ρ := σ.eval) (w := w') (i := 1) Try.underlying47 (by kernel_rfl) (.tmp 5) (.const (.int .i64 1)) rfl hg.1 rfl (by omega), rfl⟩)) ?_
  refine LinL.step (s := (.val (.int .i64 y))) [(37, some 0), (27, some 10)] rfl (by kernel_rfl) (op_yes (reads := [(37, some 0)]) 13 27 10 true rfl rfl rfl (op_runs rfl fun σ w' hx hg => ⟨_, runs_fload (ρ := σ.eval) (w := w') (.tmp 37) rfl hg.1 (agg_of (by kernel_rfl) _) (F5.ext hx) rfl, rfl⟩)) ?_
  refine LinL.step (s := (.val (.pointer (some ⟨g5, 2, none⟩)))) [(5, none), (27, some 11)] rfl (by kernel_rfl) (op_yes (reads := [(5, none)]) 13 27 11 true rfl rfl rfl (op_runs rfl fun σ w' hx hg => ⟨_, runs_ar (ρ := σ.eval) (w := w') (i := 2) Try.underlying47 (by kernel_rfl) (.tmp 5) (.const (.int .i64 2)) rfl hg.1 rfl (by omega), rfl⟩)) ?_
  refine LinL.step (s := (.val (.int .i64 z))) [(39, some 0), (27, some 12)] rfl (by kernel_rfl) (op_yes (reads := [(39, some 0)]) 13 27 12 true rfl rfl rfl (op_runs rfl fun σ w' hx hg => ⟨_, runs_fload (ρ := σ.eval) (w := w') (.tmp 39) rfl hg.1 (agg_of (by kernel_rfl) _) (F5.ext hx) rfl, rfl⟩)) ?_
  refine LinL.step (s := (Sp.oi wd.heap.size (spr x y z))) [(36, some 4), (38, some 2), (40, some 0), (27, some 13)] rfl (by kernel_rfl) (op_yes (reads := [(36, some 4), (38, some 2), (40, some 0)]) 13 27 13 true rfl rfl rfl (op_calls 27 #[(.tmp 36), (.tmp 38), (.tmp 40)] #[3, 3, 3] (fun σ => #[.int .i64 x, .int .i64 y, .int .i64 z]) rfl rfl (fun _ _ => rfl) fun σ w' hx hg => ⟨by have h36 : σ.tmps.getD 36 undef = .int .i64 x := hg.1; have h38 : σ.tmps.getD 38 undef = .int .i64 y := hg.2.1; have h40 : σ.tmps.getD 40 undef = .int .i64 z := hg.2.2.1; simp only [List.map_toArray, List.map_cons, List.map_nil, Act.eval, h36, h38, h40], retO hx.size (refSpread_any hz.out)⟩)) ?_
  refine LinL.step (s := (.val (.bool true))) [(34, some 7), (41, some 0), (27, some 14)] rfl (by kernel_rfl) (op_yes (reads := [(34, some 7), (41, some 0)]) 13 27 14 true rfl rfl rfl (op_calls 25 #[(.tmp 34), (.tmp 41)] #[33, 33] (fun σ => #[σ.tmps.getD 34 undef, σ.tmps.getD 41 undef]) rfl rfl (fun _ _ => rfl) fun σ w' hx hg => ⟨by skip; simp only [List.map_toArray, List.map_cons, List.map_nil, Act.eval], retF (SameInts_any _ _ (spr x y z) w' (show OwnI wd.heap.size w' _ _ from hg.1).ints (show OwnI wd.heap.size w' _ _ from hg.2.1).ints)⟩)) ?_
  refine LinL.step (s := (.val (.bool true))) [(27, some 15), (42, some 0)] rfl (by kernel_rfl) (op_runs rfl fun σ w' hx hg => ⟨_, runs_pick_t (ρ := σ.eval) (w := w') (.tmp 27) (.tmp 42) (.const (.bool false)) rfl hg.1 hg.2.1, rfl⟩) ?_
  refine LinL.step (s := (.val (.bool true))) [(43, some 0)] rfl (by kernel_rfl) (op_copy 43 0 (.val (.bool true)) rfl (.inr rfl) rfl) ?_
  intro wN hxN
  simp only [Fin', Sp.oi, List.reverse_cons, List.reverse_nil, List.nil_append, List.cons_append, List.drop_zero, List.take_succ_cons, List.take_zero]
  intro q34 hq34 q41 hq41
  simp only [Act.put, List.setIfInBounds_toArray, List.set_cons_zero, List.set_cons_succ]
  replace hX := hX.trans (hxd.trans hxN)
  go_wp2
  go_ret
  exact Keep.intro ⟨rfl, hX⟩

set_option maxRecDepth 100000 in
theorem netSides_lifted (os : Os) (started : os.Started) (H : Type) (enc : TypeId × Value → H) :
    ReturnsInHanded {} Try.checked os 5 .any (Rows.netSidesSpec.pre6 enc Try.prog Try.f5 Rows.netSidesRow.domain false) (Rows.netSidesSpec.post enc Try.prog Try.f5 false true false false) := by
  refine law_lifted (s := Rows.netSidesSpec) (conds := Rows.netSidesRow.domain) Try.func5 (by kernel_rfl) rfl (fun H ds h => by
      rw [show Try.f5.params.size = 3 from rfl] at h
      match ds, h with
      | [d0, d1, d2], _ => rfl) rfl rfl (by decide +kernel) os started H enc
    (ChangeSpec.witness6 (enc := enc) (C := Try.checked) false ⟨#[], #[.int .i64 0, .agg #[.int .i64 0, .int .i64 0], .agg #[.int .i64 0, .int .i64 0, .int .i64 0]], []⟩ 8 (by kernel_rfl) (by kernel_rfl) (by kernel_rfl) (by kernel_rfl)) ?_
  intro W base args ds p hval hA hsz _
  have hp : Try.f5.params.toList = [3, 46, 47] := rfl
  rw [hp] at hA hsz
  obtain ⟨v0, v1, v2, d0, d1, d2, p0, p1, p2, rfl, rfl, rfl, h0, h1, h2⟩ := trodAll_three hA
  obtain ⟨a0, rfl, b0, c0⟩ := arg_int (hval 0 3 v0 rfl rfl) h0
  obtain ⟨x1, y1, rfl, b1, c1⟩ := open_int_array2 Try.underlying46 Try.underlying3 (by kernel_rfl) (by kernel_rfl) (hval 1 46 v1 rfl rfl) h1
  simp [Lit.wf, IntKind.min, IntKind.max, IntKind.signed, IntKind.bits] at b1 c1
  obtain ⟨x2, y2, z2, rfl, b2, c2, d2⟩ := open_int_array3 Try.underlying47 Try.underlying3 (by kernel_rfl) (by kernel_rfl) (hval 2 47 v2 rfl rfl) h2
  simp [Lit.wf, IntKind.min, IntKind.max, IntKind.signed, IntKind.bits] at b2 c2 d2
  exact netSides_law a0 x1 y1 x2 y2 z2 W (by omega)

theorem netSides_holds : Rows.NetSidesSaid :=
  OpenClaim.holds_of_wide 5 Try.f5 rfl rfl rfl rfl rfl rfl rfl ⟨rfl, rfl, rfl, rfl, rfl⟩ rfl rfl rfl rfl rfl (by kernel_rfl) Try.func5 (by kernel_rfl)
    (of_decide_eq_true (by kernel_rfl)) (by unfold Func.isWrapper; first | (rw [if_pos (by decide +kernel)]; kernel_rfl) | (rw [if_neg (by decide +kernel)]; exact ⟨rfl, rfl⟩))
    (fun os started H enc _ => netSides_lifted os started H enc)
#print axioms netSides_holds

end Go.Proofs.Ytkkbpmkeemfppaa
