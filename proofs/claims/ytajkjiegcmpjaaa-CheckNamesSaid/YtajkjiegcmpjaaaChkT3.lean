/- A view is entered; a step in which nothing came is given up; what is said again. -/
import Derived.Test.YtajkjiegcmpjaaaPk11
namespace Go.Proofs.Ytajkjiegcmpjaaa
set_option maxHeartbeats 3200000
set_option maxRecDepth 100000
open Go.RowKit
theorem zeroP (w : World) : (zeroValue 69).run Try.prog w = .ok (prV (0, 0)) w := by kernel_rfl
section
variable {ops : Array Oper} {rest : List Oper} {o : Oper} {a : Act} {Q : Exit → Act → World → Prop} {w : World} {ρ : Operand → Value}
theorem runs_plook (x y : Operand) {g n : Nat} {D : DataW Value} {f : Int → Option (Int × Int)} {j rx ru : Int} {ok : Bool} (ho : o.op = Op.lookup 66 x y true) (hx : ρ x = .map (some g)) (hy : ρ y = .int .i64 j)
    (hj : In64 j) (h : w.ownsMap Try.prog 3 tok g n D) (hD : PrM D f) (hr : (f j).getD (0, 0) = (rx, ru) ∧ (f j).isSome = ok) : Runs Try.prog o ρ w (.tuple #[.agg #[.int .i64 rx, .int .i64 ru], .bool ok]) := by
  have hkey : keyOf Try.prog 3 (.int .i64 j) = some (.int .i64 j) := Maps.keyOf_int_mk Try.underlying3 hj.wf
  obtain ⟨u, ps, h3, h4⟩ := h.look_ok Try.keyI Try.underlying66 (zeroP w) (zd := .held (prV (0, 0))) (zp := []) rfl hkey
  rw [(hD.2.1 j hj).2, hr.1] at h4
  obtain ⟨rfl, _⟩ : u = .agg #[.int .i64 rx, .int .i64 ru] ∧ ps = [] := by simpa [tok, prV] using h4
  rw [(hD.2.1 j hj).1, hr.2] at h3
  unfold Runs execOp
  simp [ho, hx, hy, h3]
theorem w_plook (x y : Operand) {g n : Nat} {D : DataW Value} {f : Int → Option (Int × Int)} {j rx ru : Int} {ok : Bool} (hgd : o.guard = none) (ho : o.op = Op.lookup 66 x y true) (hx : a.eval x = .map (some g)) (hy : a.eval y = .int .i64 j)
    (hj : In64 j) (h : w.ownsMap Try.prog 3 tok g n D) (hD : PrM D f) (hr : (f j).getD (0, 0) = (rx, ru) ∧ (f j).isSome = ok) (kk : wpList Try.prog ops Q rest (a.put o.dst (.tuple #[.agg #[.int .i64 rx, .int .i64 ru], .bool ok])) w) : wpList Try.prog ops Q (o :: rest) a w :=
  wpList_runs hgd (runs_plook x y ho hx hy hj h hD hr) kk
end
theorem enter_turn {S : Nat → Nat} {w : World} {tb p q gp gs : Nat} {kv ov sv dv : Value} {kn : List Int} {c : CoD} {v : Int} (h : TrnW S w tb p kv ov sv dv q gp gs kn c) (hv0 : 0 ≤ v ∧ v ≤ 1000) (hvw : -1 ≤ c.vw) (hlen0 : (c.out.length + 1) * 128 ≤ 140737488355328) :
    Calls Try.prog 39 #[.pointer (some ⟨tb, 0, none⟩), .int .i64 v] w fun e w' => e = .returned (.tuple #[]) ∧ ∃ S' ov', TrnW S' w' tb p kv ov' sv dv q gp gs kn (c.enter v) ∧ Stp 1 8 S S' w w' := by
  refine z2cz ?_
  have hT := hide_ h
  have hlen := hide_ hlen0
  have hvr := hide_ hv0
  have hv64 := hide_ (show In64 v from by unfold In64; omega)
  have hvI := hide_ (show v ≤ 9223372036854775807 from by omega)
  obtain ⟨d, hd0⟩ : ∃ d, ({ c with view := v } : CoD).to 1 = d := ⟨_, rfl⟩
  have hd := hide_ hd0
  obtain ⟨ok, hok⟩ : ∃ ok, (d.prop v).isSome = ok := ⟨_, rfl⟩
  obtain ⟨⟨rx, ru⟩, hrx⟩ : ∃ r, (d.prop v).getD (0, 0) = r := ⟨_, rfl⟩
  have hpr := hide_ (show (d.prop v).getD (0, 0) = (rx, ru) ∧ (d.prop v).isSome = ok from ⟨hrx, hok⟩)
  obtain ⟨l, hl0⟩ : ∃ l, d.leader v = l := ⟨_, rfl⟩
  have hld := hide_ hl0
  have hent : c.enter v = if d.prop v = none ∧ d.leader v = d.me then (d.setProp v d.prop1).send (d.offer v d.prop1) else d := by subst hd0; rfl
  have hdl := hide_ (show (d.out.length + 1) * 128 ≤ 140737488355328 from by subst hd0; exact hlen0)
  have hdv := hide_ (show -1 ≤ d.vw from by subst hd0; exact hvw)
  have hview := hide_ (show d.view = v from by subst hd0; rfl)
  clear hd0 hvw hlen0
  cases ok with
  | true =>
    have hfin := hide_ (show c.enter v = d from by rw [hent, if_neg fun q => by rw [q.1] at hok; cases hok])
    clear h hv0 hok hrx hl0 hent
    go_enter Try.func39, Try.ntmps39
    go_wp2_with ((first | (refine z33z ?_; intro w1 hm1 f1; have hC1 := hT.out.cor.cell (d := { c with view := v }) hm1 f1 ⟨rfl, rfl, rfl, rfl, rfl, rfl⟩ hT.out.cor.lft; have hs1 := hT.out.cor.stpCell hm1; have hTv := hide_ (hT.out.core hs1 hC1 rfl)) | (go_at_call 48; refine (goOn_turn hTv.out hvI.out).mono ?_; rintro e w2 ⟨rfl, hT2, hs2⟩; rw [hd.out] at hT2; have hT1 := hide_ hT2; have hS1 := hide_ ((hs1.wide (by omega) (by omega)).trans hs2); have hX := Ext.refl w2; obtain ⟨n, D, hpn0, hpo0, hpm0⟩ := hT2.cor.prp; have hpn := hide_ (Nat.le_trans hpn0 (by omega : 1001 ≤ 1000000)); have hpo := hide_ hpo0; have hpm := hide_ hpm0; clear hpn0 hpo0 hpm0 hT2 hs2) | refine z3dz ?_ | (refine z3bz ?_; simp only [List.getElem_toArray, List.getElem_cons_succ, List.getElem_cons_zero]) | (refine z39z ?_; intro g4 w4 hg40 hx f4; have hg4 := hide_ (Nat.le_trans hX.size hg40); clear hg40; replace hX := hX.trans hx; clear hx) | (refine z3az ?_; refine w_astoreN Try.stPrep (us := [.int .i64 rx, .int .i64 ru]) _ _ rfl rfl rfl rfl rfl f4 rfl rfl (by intro u hu; simp at hu; rcases hu with rfl | rfl <;> rfl) ?_; intro w5 hm5 f5; replace hX := hm5.after hX (fun j e => e ▸ hg4.out); clear hm5 f4) | refine zrz ?_ | refine znz ?_ | fail) <;> (try refine z0z ?_))
    refine zpz ?_; intro wd hxd; have HT := hT1.out.ext (hX.trans hxd); have FT := HT.turn; have F0 := HT.cor.obj
    refine Ph.rest 0 17 (by kernel_rfl) ?_
    refine LinL.st [(5, none)] rfl (opmv (.bool true)) ?_
    refine LinL.st [(30, some 0)] rfl (opcp (.val (.bool true))) ?_
    refine LinL.step (s := .val undef) [(0, none), (31, some 0)] rfl (by kernel_rfl) (op_no (reads := [(0, none)]) 1 31 0 false rfl rfl rfl) ?_
    refine LinL.step (s := .val undef) [(32, some 0), (31, some 1)] rfl (by kernel_rfl) (op_no (reads := [(32, some 0)]) 1 31 1 false rfl rfl rfl) ?_
    refine LinL.step (s := .val undef) [(33, some 0), (31, some 2)] rfl (by kernel_rfl) (op_no (reads := [(33, some 0)]) 1 31 2 false rfl rfl rfl) ?_
    refine LinL.step (s := .val undef) [(34, some 0), (31, some 3)] rfl (by kernel_rfl) (op_no (reads := [(34, some 0)]) 1 31 3 false rfl rfl rfl) ?_
    refine LinL.step (s := .val undef) [(1, none), (31, some 4)] rfl (by kernel_rfl) (op_no (reads := [(1, none)]) 1 31 4 false rfl rfl rfl) ?_
    refine LinL.step (s := .val undef) [(35, some 1), (36, some 0), (31, some 5)] rfl (by kernel_rfl) (op_no (reads := [(35, some 1), (36, some 0)]) 1 31 5 false rfl rfl rfl) ?_
    refine LinL.step (s := .val undef) [(0, none), (31, some 6)] rfl (by kernel_rfl) (op_no (reads := [(0, none)]) 1 31 6 false rfl rfl rfl) ?_
    refine LinL.step (s := .val undef) [(38, some 0), (31, some 7)] rfl (by kernel_rfl) (op_no (reads := [(38, some 0)]) 1 31 7 false rfl rfl rfl) ?_
    refine LinL.step (s := .val undef) [(39, some 0), (31, some 8)] rfl (by kernel_rfl) (op_no (reads := [(39, some 0)]) 1 31 8 false rfl rfl rfl) ?_
    refine LinL.step (s := .val undef) [(40, some 0), (31, some 9)] rfl (by kernel_rfl) (op_no (reads := [(40, some 0)]) 1 31 9 false rfl rfl rfl) ?_
    refine LinL.step (s := .val undef) [(41, some 0), (31, some 10)] rfl (by kernel_rfl) (op_no (reads := [(41, some 0)]) 1 31 10 false rfl rfl rfl) ?_
    refine LinL.step (s := .val undef) [(42, some 0), (31, some 11)] rfl (by kernel_rfl) (op_no (reads := [(42, some 0)]) 1 31 11 false rfl rfl rfl) ?_
    refine LinL.step (s := .val undef) [(43, some 0), (31, some 12)] rfl (by kernel_rfl) (op_no (reads := [(43, some 0)]) 1 31 12 false rfl rfl rfl) ?_
    refine LinL.step (s := .val undef) [(37, some 7), (44, some 0), (31, some 13)] rfl (by kernel_rfl) (op_no (reads := [(37, some 7), (44, some 0)]) 1 31 13 false rfl rfl rfl) ?_
    refine LinL.step (s := (.val (.bool true))) [(31, some 14), (45, some 0)] rfl (by kernel_rfl) (op_runs rfl fun σ w' hx hg => ⟨_, runs_pick_t (ρ := σ.eval) (w := w') (.tmp 31) (.const (.bool true)) (.tmp 45) rfl hg.1 rfl, rfl⟩) ?_
    intro wN hxN
    refine z1dz ?_
    replace hX := hX.trans (hxd.trans hxN); clear hxd hxN HT FT F0
    go_wp2
    go_end0
    exact Keep.intro ⟨rfl, S, ov, by rw [hfin.out]; exact hT1.out.ext hX, hS1.out.trans (Stp.ofExt hX hT1.out.bnd)⟩
  | false =>
    by_cases hlm : l = (d.me : Int)
    rotate_left
    · have hfin := hide_ (show c.enter v = d from by rw [hent, if_neg fun q => hlm (by rw [← hl0]; exact q.2)])
      have tl : (l != (d.me : Int)) = true := by simpa using hlm
      clear h hv0 hok hrx hl0 hent hlm
      go_enter Try.func39, Try.ntmps39
      go_wp2_with ((first | (refine z33z ?_; intro w1 hm1 f1; have hC1 := hT.out.cor.cell (d := { c with view := v }) hm1 f1 ⟨rfl, rfl, rfl, rfl, rfl, rfl⟩ hT.out.cor.lft; have hs1 := hT.out.cor.stpCell hm1; have hTv := hide_ (hT.out.core hs1 hC1 rfl)) | (go_at_call 48; refine (goOn_turn hTv.out hvI.out).mono ?_; rintro e w2 ⟨rfl, hT2, hs2⟩; rw [hd.out] at hT2; have hT1 := hide_ hT2; have hS1 := hide_ ((hs1.wide (by omega) (by omega)).trans hs2); have hX := Ext.refl w2; obtain ⟨n, D, hpn0, hpo0, hpm0⟩ := hT2.cor.prp; have hpn := hide_ (Nat.le_trans hpn0 (by omega : 1001 ≤ 1000000)); have hpo := hide_ hpo0; have hpm := hide_ hpm0; clear hpn0 hpo0 hpm0 hT2 hs2) | refine z3dz ?_ | (refine z3bz ?_; simp only [List.getElem_toArray, List.getElem_cons_succ, List.getElem_cons_zero]) | (refine z39z ?_; intro g4 w4 hg40 hx f4; have hg4 := hide_ (Nat.le_trans hX.size hg40); clear hg40; replace hX := hX.trans hx; clear hx) | (refine z3az ?_; refine w_astoreN Try.stPrep (us := [.int .i64 rx, .int .i64 ru]) _ _ rfl rfl rfl rfl rfl f4 rfl rfl (by intro u hu; simp at hu; rcases hu with rfl | rfl <;> rfl) ?_; intro w5 hm5 f5; replace hX := hm5.after hX (fun j e => e ▸ hg4.out); clear hm5 f4) | refine zrz ?_ | refine znz ?_ | fail) <;> (try refine z0z ?_))
      refine zpz ?_; intro wd hxd; have HT := hT1.out.ext (hX.trans hxd); have FT := HT.turn; have F0 := HT.cor.obj
      refine zaz ?_
      refine LinL.step (s := (.val (.bool true))) [(37, some 7), (44, some 0), (31, some 13)] rfl (by kernel_rfl) (op_yes (reads := [(37, some 7), (44, some 0)]) 1 31 13 false rfl rfl rfl (op_runs rfl fun σ w' hx hg => ⟨(.bool true), by have h37 : σ.tmps.getD 37 undef = .int .i64 l := hg.1; have h44 : σ.tmps.getD 44 undef = .int .i64 (d.me : Nat) := hg.2.1; unfold Runs execOp; simp [Act.eval, h37, h44, go_sem, tl], rfl⟩)) ?_
      refine LinL.step (s := (.val (.bool true))) [(31, some 14), (45, some 0)] rfl (by kernel_rfl) (op_runs rfl fun σ w' hx hg => ⟨_, runs_pick_f (ρ := σ.eval) (w := w') (.tmp 31) (.const (.bool true)) (.tmp 45) rfl hg.1 hg.2.1, rfl⟩) ?_
      intro wN hxN
      refine z1dz ?_
      replace hX := hX.trans (hxd.trans hxN); clear hxd hxN HT FT F0
      go_wp2
      go_end0
      exact Keep.intro ⟨rfl, S, ov, by rw [hfin.out]; exact hT1.out.ext hX, hS1.out.trans (Stp.ofExt hX hT1.out.bnd)⟩
    have hfin := hide_ (show c.enter v = (d.setProp v d.prop1).send (d.offer v d.prop1) from by rw [hent, if_pos ⟨Option.isNone_iff_eq_none.1 (Option.isSome_eq_false_iff.1 hok), hl0.trans hlm⟩])
    have tl : (l != (d.me : Int)) = false := by simpa using hlm
    obtain ⟨⟨px, pu⟩, hp0⟩ : ∃ r, d.prop1 = r := ⟨_, rfl⟩
    have hp1 := hide_ hp0
    rw [hp0] at hfin
    have hoff := hide_ (show d.offer v (px, pu) = fil (d.setProp v (px, pu)) ⟨3, 0, 0, 0, px, pu⟩ from by
      unfold CoD.offer fil CoD.setProp CoD.idx
      simp only
      rw [if_neg (by omega), hview.out])
    clear h hv0 hok hrx hl0 hent hlm
    by_cases hno : d.vw = -1
    · have tn : (d.vw == -1) = true := by simp [hno]
      have he := hide_ (show d.tip = px ∧ -1 = pu from by
        have h1 := hp1.out
        unfold CoD.prop1 at h1
        rw [if_neg (by omega)] at h1
        injection h1 with h1 h2
        exact ⟨h1, h2⟩)
      have tnu := hide_ (show d.vw = pu from hno.trans he.out.2); clear hp0 hno
      go_enter Try.func39, Try.ntmps39
      go_wp2_with ((first | (refine z33z ?_; intro w1 hm1 f1; have hC1 := hT.out.cor.cell (d := { c with view := v }) hm1 f1 ⟨rfl, rfl, rfl, rfl, rfl, rfl⟩ hT.out.cor.lft; have hs1 := hT.out.cor.stpCell hm1; have hTv := hide_ (hT.out.core hs1 hC1 rfl)) | (go_at_call 48; refine (goOn_turn hTv.out hvI.out).mono ?_; rintro e w2 ⟨rfl, hT2, hs2⟩; rw [hd.out] at hT2; have hT1 := hide_ hT2; have hS1 := hide_ ((hs1.wide (by omega) (by omega)).trans hs2); have hX := Ext.refl w2; obtain ⟨n, D, hpn0, hpo0, hpm0⟩ := hT2.cor.prp; have hpn := hide_ (Nat.le_trans hpn0 (by omega : 1001 ≤ 1000000)); have hpo := hide_ hpo0; have hpm := hide_ hpm0; clear hpn0 hpo0 hpm0 hT2 hs2) | refine z3dz ?_ | (refine z3bz ?_; simp only [List.getElem_toArray, List.getElem_cons_succ, List.getElem_cons_zero]) | (refine z39z ?_; intro g4 w4 hg40 hx f4; have hg4 := hide_ (Nat.le_trans hX.size hg40); clear hg40; replace hX := hX.trans hx; clear hx) | (refine z3az ?_; refine w_astoreN Try.stPrep (us := [.int .i64 rx, .int .i64 ru]) _ _ rfl rfl rfl rfl rfl f4 rfl rfl (by intro u hu; simp at hu; rcases hu with rfl | rfl <;> rfl) ?_; intro w5 hm5 f5; replace hX := hm5.after hX (fun j e => e ▸ hg4.out); clear hm5 f4) | refine zrz ?_ | refine znz ?_ | fail) <;> (try refine z0z ?_))
      refine zpz ?_; intro wd hxd; have HT := hT1.out.ext (hX.trans hxd); have FT := HT.turn; have F0 := HT.cor.obj
      refine z23z ?_
      intro wN hxN
      refine z1dz ?_
      replace hX := hX.trans (hxd.trans hxN); clear hxd hxN HT FT F0
      go_wp2_with ((first | ((with_reducible refine at_load ?_); refine w_loadB Try.stPrep _ [.int .i64 d.vv, .int .i64 d.vw] rfl rfl rfl (hT1.out.ext hX).cor.obj rfl rfl ?_) | (refine z39z ?_; intro g6 w6 hg60 hx f6; have hg6w := hide_ (Nat.le_trans hX.size hg60); have hg6 := hide_ (show ¬ S g6 = 2 from fun e => by have := hT1.out.bnd g6 (by rw [e]; omega); have := hX.size; omega); clear hg60; replace hX := hX.trans hx; clear hx) | (refine z3az ?_; refine w_astoreN Try.stPrep (us := [.int .i64 d.vv, .int .i64 d.vw]) _ _ rfl rfl rfl rfl rfl f6 rfl rfl (by intro u hu; simp at hu; rcases hu with rfl | rfl <;> rfl) ?_; intro w7 hm7 f7; replace f6 := f7; replace hX := hm7.after hX (fun j e => e ▸ hg6w.out); clear hm7 f7) | ((with_reducible refine at_store ?_); refine w_fstore _ _ (u := .int .i64 d.tip) rfl rfl rfl rfl rfl f6 (by simp) rfl rfl (by kernel_rfl) ?_; intro w8 hm8 f8; replace f6 : Fs w8 g6 [.int .i64 d.tip, .int .i64 d.vw] := f8; replace hX := hm8.after hX (fun j e => e ▸ hg6w.out); clear hm8 f8) | refine z4z ?_ | refine z2zz ?_ | refine z27z ?_ | fail) <;> (try refine z0z ?_))
      rw [he.out.1, show d.vw = pu from tnu.out] at f6
      refine zpz ?_; intro wd hxd; have HT := hT1.out.ext (hX.trans hxd); have FT := HT.turn; have F0 := HT.cor.obj; have F6 := f6.ext hxd
      refine Ph.gate 0 10 (by kernel_rfl) ?_
      refine zwz ?_
      refine z1uz ?_
      intro wN hxN
      refine z1dz ?_
      refine zhz ?_
      refine z4yz ?_; intro w9 hm9 o9
      show Ph Try.prog _ _ 11 _ _
      refine Ph.rest 11 0 (by kernel_rfl) ?_
      intro wM hxM
      refine z1az ?_
      have hTa := hT1.out.ext (hX.trans (hxd.trans hxN))
      have hCa := hTa.cor.propose (d := d.setProp v (px, pu)) hm9 o9 (hpm.out.put v hvr.out (px, pu)) rfl
      have hsa := hTa.cor.stpProp hm9
      have hT2 := hide_ ((hTa.core hsa hCa rfl).ext hxM)
      have hS2 := hide_ (((hS1.out.trans (Stp.ofExt (hX.trans (hxd.trans hxN)) hT1.out.bnd)).trans (hsa.wide (by omega) (by omega))).trans (Stp.ofExt hxM hCa.bnd))
      have f6b := ((F6.ext hxN).mod hm9 (fun e => hg6.out (e ▸ hTa.cor.lab.2.1))).ext hxM
      clear hTa hCa hsa hm9 o9 hX hxd hxN hxM HT FT F0 F6 f6
      go_wp2_with ((first | ((with_reducible refine at_load ?_); refine w_loadB Try.stPrep _ [.int .i64 px, .int .i64 pu] rfl rfl rfl f6b rfl rfl ?_) | (go_at_call 51; refine (proposal_any).mono ?_; rintro e w9 ⟨rfl, hx⟩; replace f6b := f6b.ext hx) | (go_at_call 50; refine (send_turn (m0 := ⟨3, 0, 0, 0, px, pu⟩) (hT2.out.ext hx) hdl.out).mono ?_; rintro e wE ⟨rfl, SE, ovE, hTE, hsE⟩) | fail) <;> (try refine z0z ?_))
      go_end0
      exact Keep.intro ⟨rfl, SE, ovE, by rw [hfin.out, hoff.out]; exact hTE, (hS2.out.trans (Stp.ofExt hx hT2.out.bnd)).trans hsE⟩
    · have tn : (d.vw == -1) = false := by simp [hno]
      have he := hide_ (show d.vv = px ∧ d.vw = pu from by
        have h1 := hp1.out
        unfold CoD.prop1 at h1
        rw [if_pos (by have := hdv.out; omega)] at h1
        injection h1 with h1 h2
        exact ⟨h1, h2⟩)
      clear hp0 hno
      go_enter Try.func39, Try.ntmps39
      go_wp2_with ((first | (refine z33z ?_; intro w1 hm1 f1; have hC1 := hT.out.cor.cell (d := { c with view := v }) hm1 f1 ⟨rfl, rfl, rfl, rfl, rfl, rfl⟩ hT.out.cor.lft; have hs1 := hT.out.cor.stpCell hm1; have hTv := hide_ (hT.out.core hs1 hC1 rfl)) | (go_at_call 48; refine (goOn_turn hTv.out hvI.out).mono ?_; rintro e w2 ⟨rfl, hT2, hs2⟩; rw [hd.out] at hT2; have hT1 := hide_ hT2; have hS1 := hide_ ((hs1.wide (by omega) (by omega)).trans hs2); have hX := Ext.refl w2; obtain ⟨n, D, hpn0, hpo0, hpm0⟩ := hT2.cor.prp; have hpn := hide_ (Nat.le_trans hpn0 (by omega : 1001 ≤ 1000000)); have hpo := hide_ hpo0; have hpm := hide_ hpm0; clear hpn0 hpo0 hpm0 hT2 hs2) | refine z3dz ?_ | (refine z3bz ?_; simp only [List.getElem_toArray, List.getElem_cons_succ, List.getElem_cons_zero]) | (refine z39z ?_; intro g4 w4 hg40 hx f4; have hg4 := hide_ (Nat.le_trans hX.size hg40); clear hg40; replace hX := hX.trans hx; clear hx) | (refine z3az ?_; refine w_astoreN Try.stPrep (us := [.int .i64 rx, .int .i64 ru]) _ _ rfl rfl rfl rfl rfl f4 rfl rfl (by intro u hu; simp at hu; rcases hu with rfl | rfl <;> rfl) ?_; intro w5 hm5 f5; replace hX := hm5.after hX (fun j e => e ▸ hg4.out); clear hm5 f4) | refine zrz ?_ | refine znz ?_ | fail) <;> (try refine z0z ?_))
      refine zpz ?_; intro wd hxd; have HT := hT1.out.ext (hX.trans hxd); have FT := HT.turn; have F0 := HT.cor.obj
      refine z23z ?_
      intro wN hxN
      refine z1dz ?_
      replace hX := hX.trans (hxd.trans hxN); clear hxd hxN HT FT F0
      go_wp2_with ((first | ((with_reducible refine at_load ?_); refine w_loadB Try.stPrep _ [.int .i64 d.vv, .int .i64 d.vw] rfl rfl rfl (hT1.out.ext hX).cor.obj rfl rfl ?_) | (refine z39z ?_; intro g6 w6 hg60 hx f6; have hg6w := hide_ (Nat.le_trans hX.size hg60); have hg6 := hide_ (show ¬ S g6 = 2 from fun e => by have := hT1.out.bnd g6 (by rw [e]; omega); have := hX.size; omega); clear hg60; replace hX := hX.trans hx; clear hx) | (refine z3az ?_; refine w_astoreN Try.stPrep (us := [.int .i64 d.vv, .int .i64 d.vw]) _ _ rfl rfl rfl rfl rfl f6 rfl rfl (by intro u hu; simp at hu; rcases hu with rfl | rfl <;> rfl) ?_; intro w7 hm7 f7; replace f6 := f7; replace hX := hm7.after hX (fun j e => e ▸ hg6w.out); clear hm7 f7) | refine z1kz ?_ | refine z4z ?_ | refine z27z ?_ | fail) <;> (try refine z0z ?_))
      rw [he.out.1, he.out.2] at f6
      refine zpz ?_; intro wd hxd; have HT := hT1.out.ext (hX.trans hxd); have FT := HT.turn; have F0 := HT.cor.obj; have F6 := f6.ext hxd
      refine Ph.gate 0 10 (by kernel_rfl) ?_
      refine zwz ?_
      refine z1uz ?_
      intro wN hxN
      refine z1dz ?_
      refine zhz ?_
      refine z4yz ?_; intro w9 hm9 o9
      show Ph Try.prog _ _ 11 _ _
      refine Ph.rest 11 0 (by kernel_rfl) ?_
      intro wM hxM
      refine z1az ?_
      have hTa := hT1.out.ext (hX.trans (hxd.trans hxN))
      have hCa := hTa.cor.propose (d := d.setProp v (px, pu)) hm9 o9 (hpm.out.put v hvr.out (px, pu)) rfl
      have hsa := hTa.cor.stpProp hm9
      have hT2 := hide_ ((hTa.core hsa hCa rfl).ext hxM)
      have hS2 := hide_ (((hS1.out.trans (Stp.ofExt (hX.trans (hxd.trans hxN)) hT1.out.bnd)).trans (hsa.wide (by omega) (by omega))).trans (Stp.ofExt hxM hCa.bnd))
      have f6b := ((F6.ext hxN).mod hm9 (fun e => hg6.out (e ▸ hTa.cor.lab.2.1))).ext hxM
      clear hTa hCa hsa hm9 o9 hX hxd hxN hxM HT FT F0 F6 f6
      go_wp2_with ((first | ((with_reducible refine at_load ?_); refine w_loadB Try.stPrep _ [.int .i64 px, .int .i64 pu] rfl rfl rfl f6b rfl rfl ?_) | (go_at_call 51; refine (proposal_any).mono ?_; rintro e w9 ⟨rfl, hx⟩; replace f6b := f6b.ext hx) | (go_at_call 50; refine (send_turn (m0 := ⟨3, 0, 0, 0, px, pu⟩) (hT2.out.ext hx) hdl.out).mono ?_; rintro e wE ⟨rfl, SE, ovE, hTE, hsE⟩) | fail) <;> (try refine z0z ?_))
      go_end0
      exact Keep.intro ⟨rfl, SE, ovE, by rw [hfin.out, hoff.out]; exact hTE, (hS2.out.trans (Stp.ofExt hx hT2.out.bnd)).trans hsE⟩
end Go.Proofs.Ytajkjiegcmpjaaa
