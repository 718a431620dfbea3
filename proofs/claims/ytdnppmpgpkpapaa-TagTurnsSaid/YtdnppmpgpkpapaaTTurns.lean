/- The statement TagTurns: bytes of which one is another have another mark; unlike keys give unlike marks on the same bytes. No condition. -/
import Derived.Test.YtdnppmpgpkpapaaTNames
import Derived.Test.YtdnppmpgpkpapaaTagInj
import Derived.Test.YtdnppmpgpkpapaaArgA
import Derived.Test.YtdnppmpgpkpapaaRegB
import Derived.Test.YtdnppmpgpkpapaaOwnSet
import Derived.Deep.QuietTactic
import Derived.BigQuiet
import Derived.Deep.Cut
namespace Go.Proofs.Ytdnppmpgpkpapaa
open Go.RowKit Go.ChangeShapes Go.WideShapes Go.ChangeAt

theorem Try.infoU64 : (Try.prog.info? 22).map (fun i => (i.zero, i.size, i.bytes)) = some (some (.int .u64 0), 1, 8) := by kernel_rfl

set_option maxRecDepth 100000 in
set_option maxHeartbeats 400000 in
theorem turns_long (ka kb : BitVec 64) (v : Value) (l : List Nat) (z y : Int) (W : World) (hv : Byt W v l) (hlong : 1000 < l.length) :
    Calls Try.prog 7 #[.agg #[.int .u64 (ka.toNat : Int), .int .u64 (kb.toNat : Int)], v, .agg #[.int .i64 z, .int .i64 y]] W fun e w' => e = .returned (.bool true) ∧ Ext W w' := by
  refine calls_keep ?_
  have ht : (decide ((1000 : Int) < (l.length : Int))) = true := by simp; omega
  go_enter Try.func7, Try.ntmps7
  go_wp2_with (first
    | (go_at_call 3; refine (tagNames_any _).mono ?_; rintro e w1 ⟨rfl, hx1⟩; have hX := (((Ext.refl W).alloc _).alloc _).trans hx1; have H1 := hv.ext hX)
    | (refine b_len _ rfl rfl rfl (by assumption) ?_))
  go_ret
  exact Keep.intro ⟨rfl, hX⟩

set_option maxRecDepth 100000 in
set_option maxHeartbeats 1000000 in
theorem turns_neg (ka kb : BitVec 64) (v : Value) (l : List Nat) (z y : Int) (x : Nat) (W : World) (hv : Byt W v l) (hl : ∀ q ∈ l, q < 256) (hlong : l.length ≤ 1000) (hx : (x : Int) = y % 256) (hz : z < 0) :
    Calls Try.prog 7 #[.agg #[.int .u64 (ka.toNat : Int), .int .u64 (kb.toNat : Int)], v, .agg #[.int .i64 z, .int .i64 y]] W fun e w' => e = .returned (.bool true) ∧ Ext W w' := by
  refine calls_keep ?_
  have ht : (decide ((1000 : Int) < (l.length : Int))) = false := by simp; omega
  obtain ⟨i0, hi0, hz0, hz1, hz2⟩ := info_parts Try.infoU64
  have Hx := hide_ hx
  have HB := hide_ (show ∀ q ∈ [l], ∀ z ∈ q, z < 256 from by simpa using hl)
  have HL := hide_ (show [l].flatten = l from by simp)
  obtain ⟨E, hE⟩ : ∃ E : Bool, E = decide (ka = kb) := ⟨_, rfl⟩
  have Q1 := hide_ (show ((((markB ka l).toNat : Nat) : Int) == (((markB kb l).toNat : Nat) : Int)) = E from by rw [bv_beq, hE]; exact decide_eq_decide.2 markB_key)
  have Q2 := hide_ (show (((ka.toNat : Nat) : Int) == ((kb.toNat : Nat) : Int)) = E from by rw [bv_beq, hE])
  have hz2 : (decide (z < 0)) = true := by simp; omega
  clear hx hE hl hz
  go_enter Try.func7, Try.ntmps7
  go_upto_region 5 with (first
    | (go_at_call 3; refine (tagNames_any _).mono ?_; rintro e w1 ⟨rfl, hx1⟩; have hX := (((Ext.refl W).alloc _).alloc _).trans hx1; have H1 := hv.ext hX
       have c0 : w1.cell? ((⟨W.heap.size, 0, none⟩ : Addr).add 0) = some (.int .u64 (ka.toNat : Int)) := hx1.cell (by show World.cell? _ ⟨W.heap.size, 0, none⟩ = _; go_simp)
       have c1 : w1.cell? ((⟨W.heap.size, 0, none⟩ : Addr).add 1) = some (.int .u64 (kb.toNat : Int)) := hx1.cell (by show World.cell? _ ⟨W.heap.size, 1, none⟩ = _; go_simp)
       have d0 : w1.cell? ⟨W.heap.size + 1, 0, none⟩ = some (.int .i64 z) := hx1.cell (by go_simp)
       have d1 : w1.cell? ⟨W.heap.size + 1, 1, none⟩ = some (.int .i64 y) := hx1.cell (by go_simp))
    | (refine b_len _ rfl rfl rfl (by assumption) ?_))
  have K := H1.ext (Ext.refl _).drew
  have C0 := (Ext.refl w1).drew.cell c0
  have C1 := (Ext.refl w1).drew.cell c1
  refine wp_region_linR (by kernel_rfl) (by kernel_rfl) ?_
  refine LinR.step (s := (.val (.pointer (some ((⟨W.heap.size, 0, none⟩ : Addr).add 0))))) [(3, none)] rfl (by kernel_rfl) (op_runs rfl fun σ w' hx hg => ⟨_, runs_aidx (ρ := σ.eval) (w := w') (n := 2) Try.underlying32 hi0 hz1 (.tmp 3) (.const (.int .i64 0)) rfl hg.1 0 rfl (by omega), rfl⟩) ?_
  refine LinR.step (s := (.val (.int .u64 (ka.toNat : Int)))) [(15, some 0)] rfl (by kernel_rfl) (op_runs rfl fun σ w' hx hg => ⟨_, runs_load_at (ρ := σ.eval) (w := w') (.tmp 15) rfl Try.underlying22 hg.1 (hx.cell C0), rfl⟩) ?_
  refine LinR.step (s := (.val (v))) [(1, none)] rfl (by kernel_rfl) (op_out 1 (v) rfl (.inl rfl) rfl) ?_
  refine LinR.step (s := (Sp.parts [l])) [(17, some 0)] rfl (by kernel_rfl) (op_parts 1 _ [l] rfl rfl rfl (by omega) fun σ w' hx hg => ⟨[σ.tmps.getD 17 undef], rfl, rfl, byts1 (by rw [hg.1]; exact K.ext hx)⟩) ?_
  refine LinR.step (s := (.val (.int .u64 ((markB ka l).toNat : Int)))) [(16, some 2), (18, some 0)] rfl (by kernel_rfl) (op_calls 10 #[(.tmp 16), (.tmp 18)] #[22, 30] (fun σ => #[.int .u64 (ka.toNat : Int), σ.tmps.getD 18 undef]) rfl rfl (fun _ _ => rfl) fun σ w' hx hg => ⟨by have hk : σ.tmps.getD 16 undef = .int .u64 (ka.toNat : Int) := hg.1; simp only [List.map_toArray, List.map_cons, List.map_nil, Act.eval]; rw [hk], OfR ka _ [l] w' HB.out HL.out hg.2.1⟩) ?_
  refine LinR.step (s := (.val (.pointer (some ((⟨W.heap.size, 0, none⟩ : Addr).add 1))))) [(3, none)] rfl (by kernel_rfl) (op_runs rfl fun σ w' hx hg => ⟨_, runs_aidx (ρ := σ.eval) (w := w') (n := 2) Try.underlying32 hi0 hz1 (.tmp 3) (.const (.int .i64 1)) rfl hg.1 1 rfl (by omega), rfl⟩) ?_
  refine LinR.step (s := (.val (.int .u64 (kb.toNat : Int)))) [(20, some 0)] rfl (by kernel_rfl) (op_runs rfl fun σ w' hx hg => ⟨_, runs_load_at (ρ := σ.eval) (w := w') (.tmp 20) rfl Try.underlying22 hg.1 (hx.cell C1), rfl⟩) ?_
  refine LinR.step (s := (.val (v))) [(1, none)] rfl (by kernel_rfl) (op_out 1 (v) rfl (.inl rfl) rfl) ?_
  refine LinR.step (s := (Sp.parts [l])) [(22, some 0)] rfl (by kernel_rfl) (op_parts 1 _ [l] rfl rfl rfl (by omega) fun σ w' hx hg => ⟨[σ.tmps.getD 22 undef], rfl, rfl, byts1 (by rw [hg.1]; exact K.ext hx)⟩) ?_
  refine LinR.step (s := (.val (.int .u64 ((markB kb l).toNat : Int)))) [(21, some 2), (23, some 0)] rfl (by kernel_rfl) (op_calls 10 #[(.tmp 21), (.tmp 23)] #[22, 30] (fun σ => #[.int .u64 (kb.toNat : Int), σ.tmps.getD 23 undef]) rfl rfl (fun _ _ => rfl) fun σ w' hx hg => ⟨by have hk : σ.tmps.getD 21 undef = .int .u64 (kb.toNat : Int) := hg.1; simp only [List.map_toArray, List.map_cons, List.map_nil, Act.eval]; rw [hk], OfR kb _ [l] w' HB.out HL.out hg.2.1⟩) ?_
  refine LinR.step (s := (.val (.bool E))) [(19, some 5), (24, some 0)] rfl (by kernel_rfl) (op_runs rfl fun σ w' hx hg => ⟨(.bool E), by have h19 : σ.tmps.getD 19 undef = .int .u64 ((markB ka l).toNat : Int) := hg.1; have h24 : σ.tmps.getD 24 undef = .int .u64 ((markB kb l).toNat : Int) := hg.2.1; unfold Runs execOp; simp [Act.eval, h19, h24, go_sem, Q1.out], rfl⟩) ?_
  refine LinR.step (s := (.val (.pointer (some ((⟨W.heap.size, 0, none⟩ : Addr).add 0))))) [(3, none)] rfl (by kernel_rfl) (op_runs rfl fun σ w' hx hg => ⟨_, runs_aidx (ρ := σ.eval) (w := w') (n := 2) Try.underlying32 hi0 hz1 (.tmp 3) (.const (.int .i64 0)) rfl hg.1 0 rfl (by omega), rfl⟩) ?_
  refine LinR.step (s := (.val (.int .u64 (ka.toNat : Int)))) [(26, some 0)] rfl (by kernel_rfl) (op_runs rfl fun σ w' hx hg => ⟨_, runs_load_at (ρ := σ.eval) (w := w') (.tmp 26) rfl Try.underlying22 hg.1 (hx.cell C0), rfl⟩) ?_
  refine LinR.step (s := (.val (.pointer (some ((⟨W.heap.size, 0, none⟩ : Addr).add 1))))) [(3, none)] rfl (by kernel_rfl) (op_runs rfl fun σ w' hx hg => ⟨_, runs_aidx (ρ := σ.eval) (w := w') (n := 2) Try.underlying32 hi0 hz1 (.tmp 3) (.const (.int .i64 1)) rfl hg.1 1 rfl (by omega), rfl⟩) ?_
  refine LinR.step (s := (.val (.int .u64 (kb.toNat : Int)))) [(28, some 0)] rfl (by kernel_rfl) (op_runs rfl fun σ w' hx hg => ⟨_, runs_load_at (ρ := σ.eval) (w := w') (.tmp 28) rfl Try.underlying22 hg.1 (hx.cell C1), rfl⟩) ?_
  refine LinR.step (s := (.val (.bool E))) [(27, some 2), (29, some 0)] rfl (by kernel_rfl) (op_runs rfl fun σ w' hx hg => ⟨(.bool E), by have h27 : σ.tmps.getD 27 undef = .int .u64 (ka.toNat : Int) := hg.1; have h29 : σ.tmps.getD 29 undef = .int .u64 (kb.toNat : Int) := hg.2.1; unfold Runs execOp; simp [Act.eval, h27, h29, go_sem, Q2.out], rfl⟩) ?_
  refine LinR.step (s := (.val (.bool false))) [(25, some 5), (30, some 0)] rfl (by kernel_rfl) (op_runs rfl fun σ w' hx hg => ⟨(.bool false), by have h25 : σ.tmps.getD 25 undef = .bool E := hg.1; have h30 : σ.tmps.getD 30 undef = .bool E := hg.2.1; unfold Runs execOp; simp [Act.eval, h25, h30, go_sem], rfl⟩) ?_
  intro wN hxN
  simp only [Fin', Sp.parts, List.reverse_cons, List.reverse_nil, List.nil_append, List.cons_append]
  intro q18 hq18 q23 hq23
  simp only [Act.put, List.setIfInBounds_toArray, List.set_cons_zero, List.set_cons_succ]
  have hY := hX.drew.trans hxN
  have M := hv.ext hY
  have e0 := hxN.cell ((Ext.refl w1).drew.cell d0)
  have e1 := hxN.cell ((Ext.refl w1).drew.cell d1)
  clear K C0 C1 c0 c1 d0 d1 H1 hX hx1 hxN hq18 hq23
  go_wp2
  go_quiet (fail)
  rw [← Hx.out]
  have hY2 := hY.drewN nq
  have M2 := hv.ext hY2
  clear e0 e1
  obtain ⟨w2, hw2⟩ : ∃ w2, w2 = wN.drewN nq := ⟨_, rfl⟩
  rw [← hw2] at hY2 M2 ⊢
  clear hw2 M hY
  go_wp2_with (first
    | (refine w_yes _ _ _ rfl rfl rfl ?_; refine b_len _ rfl rfl rfl (by assumption) ?_))
  go_ret
  exact Keep.intro ⟨rfl, hY2⟩

set_option maxRecDepth 100000 in
set_option maxHeartbeats 1000000 in
theorem turns_out (ka kb : BitVec 64) (v : Value) (l : List Nat) (i : Nat) (y : Int) (x : Nat) (W : World) (hv : Byt W v l) (hl : ∀ q ∈ l, q < 256) (hlong : l.length ≤ 1000) (hx : (x : Int) = y % 256) (hi : l.length ≤ i) :
    Calls Try.prog 7 #[.agg #[.int .u64 (ka.toNat : Int), .int .u64 (kb.toNat : Int)], v, .agg #[.int .i64 (i : Int), .int .i64 y]] W fun e w' => e = .returned (.bool true) ∧ Ext W w' := by
  refine calls_keep ?_
  have ht : (decide ((1000 : Int) < (l.length : Int))) = false := by simp; omega
  obtain ⟨i0, hi0, hz0, hz1, hz2⟩ := info_parts Try.infoU64
  have Hx := hide_ hx
  have HB := hide_ (show ∀ q ∈ [l], ∀ z ∈ q, z < 256 from by simpa using hl)
  have HL := hide_ (show [l].flatten = l from by simp)
  obtain ⟨E, hE⟩ : ∃ E : Bool, E = decide (ka = kb) := ⟨_, rfl⟩
  have Q1 := hide_ (show ((((markB ka l).toNat : Nat) : Int) == (((markB kb l).toNat : Nat) : Int)) = E from by rw [bv_beq, hE]; exact decide_eq_decide.2 markB_key)
  have Q2 := hide_ (show (((ka.toNat : Nat) : Int) == ((kb.toNat : Nat) : Int)) = E from by rw [bv_beq, hE])
  have hi2 : (decide (l.length ≤ i)) = true := by simp; omega
  clear hx hE hl hi
  go_enter Try.func7, Try.ntmps7
  go_upto_region 5 with (first
    | (go_at_call 3; refine (tagNames_any _).mono ?_; rintro e w1 ⟨rfl, hx1⟩; have hX := (((Ext.refl W).alloc _).alloc _).trans hx1; have H1 := hv.ext hX
       have c0 : w1.cell? ((⟨W.heap.size, 0, none⟩ : Addr).add 0) = some (.int .u64 (ka.toNat : Int)) := hx1.cell (by show World.cell? _ ⟨W.heap.size, 0, none⟩ = _; go_simp)
       have c1 : w1.cell? ((⟨W.heap.size, 0, none⟩ : Addr).add 1) = some (.int .u64 (kb.toNat : Int)) := hx1.cell (by show World.cell? _ ⟨W.heap.size, 1, none⟩ = _; go_simp)
       have d0 : w1.cell? ⟨W.heap.size + 1, 0, none⟩ = some (.int .i64 (i : Int)) := hx1.cell (by go_simp)
       have d1 : w1.cell? ⟨W.heap.size + 1, 1, none⟩ = some (.int .i64 y) := hx1.cell (by go_simp))
    | (refine b_len _ rfl rfl rfl (by assumption) ?_))
  have K := H1.ext (Ext.refl _).drew
  have C0 := (Ext.refl w1).drew.cell c0
  have C1 := (Ext.refl w1).drew.cell c1
  refine wp_region_linR (by kernel_rfl) (by kernel_rfl) ?_
  refine LinR.step (s := (.val (.pointer (some ((⟨W.heap.size, 0, none⟩ : Addr).add 0))))) [(3, none)] rfl (by kernel_rfl) (op_runs rfl fun σ w' hx hg => ⟨_, runs_aidx (ρ := σ.eval) (w := w') (n := 2) Try.underlying32 hi0 hz1 (.tmp 3) (.const (.int .i64 0)) rfl hg.1 0 rfl (by omega), rfl⟩) ?_
  refine LinR.step (s := (.val (.int .u64 (ka.toNat : Int)))) [(15, some 0)] rfl (by kernel_rfl) (op_runs rfl fun σ w' hx hg => ⟨_, runs_load_at (ρ := σ.eval) (w := w') (.tmp 15) rfl Try.underlying22 hg.1 (hx.cell C0), rfl⟩) ?_
  refine LinR.step (s := (.val (v))) [(1, none)] rfl (by kernel_rfl) (op_out 1 (v) rfl (.inl rfl) rfl) ?_
  refine LinR.step (s := (Sp.parts [l])) [(17, some 0)] rfl (by kernel_rfl) (op_parts 1 _ [l] rfl rfl rfl (by omega) fun σ w' hx hg => ⟨[σ.tmps.getD 17 undef], rfl, rfl, byts1 (by rw [hg.1]; exact K.ext hx)⟩) ?_
  refine LinR.step (s := (.val (.int .u64 ((markB ka l).toNat : Int)))) [(16, some 2), (18, some 0)] rfl (by kernel_rfl) (op_calls 10 #[(.tmp 16), (.tmp 18)] #[22, 30] (fun σ => #[.int .u64 (ka.toNat : Int), σ.tmps.getD 18 undef]) rfl rfl (fun _ _ => rfl) fun σ w' hx hg => ⟨by have hk : σ.tmps.getD 16 undef = .int .u64 (ka.toNat : Int) := hg.1; simp only [List.map_toArray, List.map_cons, List.map_nil, Act.eval]; rw [hk], OfR ka _ [l] w' HB.out HL.out hg.2.1⟩) ?_
  refine LinR.step (s := (.val (.pointer (some ((⟨W.heap.size, 0, none⟩ : Addr).add 1))))) [(3, none)] rfl (by kernel_rfl) (op_runs rfl fun σ w' hx hg => ⟨_, runs_aidx (ρ := σ.eval) (w := w') (n := 2) Try.underlying32 hi0 hz1 (.tmp 3) (.const (.int .i64 1)) rfl hg.1 1 rfl (by omega), rfl⟩) ?_
  refine LinR.step (s := (.val (.int .u64 (kb.toNat : Int)))) [(20, some 0)] rfl (by kernel_rfl) (op_runs rfl fun σ w' hx hg => ⟨_, runs_load_at (ρ := σ.eval) (w := w') (.tmp 20) rfl Try.underlying22 hg.1 (hx.cell C1), rfl⟩) ?_
  refine LinR.step (s := (.val (v))) [(1, none)] rfl (by kernel_rfl) (op_out 1 (v) rfl (.inl rfl) rfl) ?_
  refine LinR.step (s := (Sp.parts [l])) [(22, some 0)] rfl (by kernel_rfl) (op_parts 1 _ [l] rfl rfl rfl (by omega) fun σ w' hx hg => ⟨[σ.tmps.getD 22 undef], rfl, rfl, byts1 (by rw [hg.1]; exact K.ext hx)⟩) ?_
  refine LinR.step (s := (.val (.int .u64 ((markB kb l).toNat : Int)))) [(21, some 2), (23, some 0)] rfl (by kernel_rfl) (op_calls 10 #[(.tmp 21), (.tmp 23)] #[22, 30] (fun σ => #[.int .u64 (kb.toNat : Int), σ.tmps.getD 23 undef]) rfl rfl (fun _ _ => rfl) fun σ w' hx hg => ⟨by have hk : σ.tmps.getD 21 undef = .int .u64 (kb.toNat : Int) := hg.1; simp only [List.map_toArray, List.map_cons, List.map_nil, Act.eval]; rw [hk], OfR kb _ [l] w' HB.out HL.out hg.2.1⟩) ?_
  refine LinR.step (s := (.val (.bool E))) [(19, some 5), (24, some 0)] rfl (by kernel_rfl) (op_runs rfl fun σ w' hx hg => ⟨(.bool E), by have h19 : σ.tmps.getD 19 undef = .int .u64 ((markB ka l).toNat : Int) := hg.1; have h24 : σ.tmps.getD 24 undef = .int .u64 ((markB kb l).toNat : Int) := hg.2.1; unfold Runs execOp; simp [Act.eval, h19, h24, go_sem, Q1.out], rfl⟩) ?_
  refine LinR.step (s := (.val (.pointer (some ((⟨W.heap.size, 0, none⟩ : Addr).add 0))))) [(3, none)] rfl (by kernel_rfl) (op_runs rfl fun σ w' hx hg => ⟨_, runs_aidx (ρ := σ.eval) (w := w') (n := 2) Try.underlying32 hi0 hz1 (.tmp 3) (.const (.int .i64 0)) rfl hg.1 0 rfl (by omega), rfl⟩) ?_
  refine LinR.step (s := (.val (.int .u64 (ka.toNat : Int)))) [(26, some 0)] rfl (by kernel_rfl) (op_runs rfl fun σ w' hx hg => ⟨_, runs_load_at (ρ := σ.eval) (w := w') (.tmp 26) rfl Try.underlying22 hg.1 (hx.cell C0), rfl⟩) ?_
  refine LinR.step (s := (.val (.pointer (some ((⟨W.heap.size, 0, none⟩ : Addr).add 1))))) [(3, none)] rfl (by kernel_rfl) (op_runs rfl fun σ w' hx hg => ⟨_, runs_aidx (ρ := σ.eval) (w := w') (n := 2) Try.underlying32 hi0 hz1 (.tmp 3) (.const (.int .i64 1)) rfl hg.1 1 rfl (by omega), rfl⟩) ?_
  refine LinR.step (s := (.val (.int .u64 (kb.toNat : Int)))) [(28, some 0)] rfl (by kernel_rfl) (op_runs rfl fun σ w' hx hg => ⟨_, runs_load_at (ρ := σ.eval) (w := w') (.tmp 28) rfl Try.underlying22 hg.1 (hx.cell C1), rfl⟩) ?_
  refine LinR.step (s := (.val (.bool E))) [(27, some 2), (29, some 0)] rfl (by kernel_rfl) (op_runs rfl fun σ w' hx hg => ⟨(.bool E), by have h27 : σ.tmps.getD 27 undef = .int .u64 (ka.toNat : Int) := hg.1; have h29 : σ.tmps.getD 29 undef = .int .u64 (kb.toNat : Int) := hg.2.1; unfold Runs execOp; simp [Act.eval, h27, h29, go_sem, Q2.out], rfl⟩) ?_
  refine LinR.step (s := (.val (.bool false))) [(25, some 5), (30, some 0)] rfl (by kernel_rfl) (op_runs rfl fun σ w' hx hg => ⟨(.bool false), by have h25 : σ.tmps.getD 25 undef = .bool E := hg.1; have h30 : σ.tmps.getD 30 undef = .bool E := hg.2.1; unfold Runs execOp; simp [Act.eval, h25, h30, go_sem], rfl⟩) ?_
  intro wN hxN
  simp only [Fin', Sp.parts, List.reverse_cons, List.reverse_nil, List.nil_append, List.cons_append]
  intro q18 hq18 q23 hq23
  simp only [Act.put, List.setIfInBounds_toArray, List.set_cons_zero, List.set_cons_succ]
  have hY := hX.drew.trans hxN
  have M := hv.ext hY
  have e0 := hxN.cell ((Ext.refl w1).drew.cell d0)
  have e1 := hxN.cell ((Ext.refl w1).drew.cell d1)
  clear K C0 C1 c0 c1 d0 d1 H1 hX hx1 hxN hq18 hq23
  go_wp2
  go_quiet (fail)
  rw [← Hx.out]
  have hY2 := hY.drewN nq
  have M2 := hv.ext hY2
  clear e0 e1
  obtain ⟨w2, hw2⟩ : ∃ w2, w2 = wN.drewN nq := ⟨_, rfl⟩
  rw [← hw2] at hY2 M2 ⊢
  clear hw2 M hY
  go_wp2_with (first
    | (refine w_yes _ _ _ rfl rfl rfl ?_; refine b_len _ rfl rfl rfl (by assumption) ?_))
  go_ret
  exact Keep.intro ⟨rfl, hY2⟩

set_option maxRecDepth 100000 in
set_option maxHeartbeats 1000000 in
theorem turns_same (ka kb : BitVec 64) (v : Value) (l : List Nat) (i : Nat) (y : Int) (x : Nat) (W : World) (hv : Byt W v l) (hl : ∀ q ∈ l, q < 256) (hlong : l.length ≤ 1000) (hx : (x : Int) = y % 256) (hi : i < l.length) (he : l[i] = x) :
    Calls Try.prog 7 #[.agg #[.int .u64 (ka.toNat : Int), .int .u64 (kb.toNat : Int)], v, .agg #[.int .i64 (i : Int), .int .i64 y]] W fun e w' => e = .returned (.bool true) ∧ Ext W w' := by
  refine calls_keep ?_
  have ht : (decide ((1000 : Int) < (l.length : Int))) = false := by simp; omega
  obtain ⟨i0, hi0, hz0, hz1, hz2⟩ := info_parts Try.infoU64
  have Hx := hide_ hx
  have HB := hide_ (show ∀ q ∈ [l], ∀ z ∈ q, z < 256 from by simpa using hl)
  have HL := hide_ (show [l].flatten = l from by simp)
  obtain ⟨E, hE⟩ : ∃ E : Bool, E = decide (ka = kb) := ⟨_, rfl⟩
  have Q1 := hide_ (show ((((markB ka l).toNat : Nat) : Int) == (((markB kb l).toNat : Nat) : Int)) = E from by rw [bv_beq, hE]; exact decide_eq_decide.2 markB_key)
  have Q2 := hide_ (show (((ka.toNat : Nat) : Int) == ((kb.toNat : Nat) : Int)) = E from by rw [bv_beq, hE])
  have he2 : ((l[i] : Int) == (x : Int)) = true := by rw [beq_iff_eq]; omega
  have hi2 : (decide (l.length ≤ i)) = false := by simp; omega
  clear hx hE he hl
  go_enter Try.func7, Try.ntmps7
  go_upto_region 5 with (first
    | (go_at_call 3; refine (tagNames_any _).mono ?_; rintro e w1 ⟨rfl, hx1⟩; have hX := (((Ext.refl W).alloc _).alloc _).trans hx1; have H1 := hv.ext hX
       have c0 : w1.cell? ((⟨W.heap.size, 0, none⟩ : Addr).add 0) = some (.int .u64 (ka.toNat : Int)) := hx1.cell (by show World.cell? _ ⟨W.heap.size, 0, none⟩ = _; go_simp)
       have c1 : w1.cell? ((⟨W.heap.size, 0, none⟩ : Addr).add 1) = some (.int .u64 (kb.toNat : Int)) := hx1.cell (by show World.cell? _ ⟨W.heap.size, 1, none⟩ = _; go_simp)
       have d0 : w1.cell? ⟨W.heap.size + 1, 0, none⟩ = some (.int .i64 (i : Int)) := hx1.cell (by go_simp)
       have d1 : w1.cell? ⟨W.heap.size + 1, 1, none⟩ = some (.int .i64 y) := hx1.cell (by go_simp))
    | (refine b_len _ rfl rfl rfl (by assumption) ?_))
  have K := H1.ext (Ext.refl _).drew
  have C0 := (Ext.refl w1).drew.cell c0
  have C1 := (Ext.refl w1).drew.cell c1
  refine wp_region_linR (by kernel_rfl) (by kernel_rfl) ?_
  refine LinR.step (s := (.val (.pointer (some ((⟨W.heap.size, 0, none⟩ : Addr).add 0))))) [(3, none)] rfl (by kernel_rfl) (op_runs rfl fun σ w' hx hg => ⟨_, runs_aidx (ρ := σ.eval) (w := w') (n := 2) Try.underlying32 hi0 hz1 (.tmp 3) (.const (.int .i64 0)) rfl hg.1 0 rfl (by omega), rfl⟩) ?_
  refine LinR.step (s := (.val (.int .u64 (ka.toNat : Int)))) [(15, some 0)] rfl (by kernel_rfl) (op_runs rfl fun σ w' hx hg => ⟨_, runs_load_at (ρ := σ.eval) (w := w') (.tmp 15) rfl Try.underlying22 hg.1 (hx.cell C0), rfl⟩) ?_
  refine LinR.step (s := (.val (v))) [(1, none)] rfl (by kernel_rfl) (op_out 1 (v) rfl (.inl rfl) rfl) ?_
  refine LinR.step (s := (Sp.parts [l])) [(17, some 0)] rfl (by kernel_rfl) (op_parts 1 _ [l] rfl rfl rfl (by omega) fun σ w' hx hg => ⟨[σ.tmps.getD 17 undef], rfl, rfl, byts1 (by rw [hg.1]; exact K.ext hx)⟩) ?_
  refine LinR.step (s := (.val (.int .u64 ((markB ka l).toNat : Int)))) [(16, some 2), (18, some 0)] rfl (by kernel_rfl) (op_calls 10 #[(.tmp 16), (.tmp 18)] #[22, 30] (fun σ => #[.int .u64 (ka.toNat : Int), σ.tmps.getD 18 undef]) rfl rfl (fun _ _ => rfl) fun σ w' hx hg => ⟨by have hk : σ.tmps.getD 16 undef = .int .u64 (ka.toNat : Int) := hg.1; simp only [List.map_toArray, List.map_cons, List.map_nil, Act.eval]; rw [hk], OfR ka _ [l] w' HB.out HL.out hg.2.1⟩) ?_
  refine LinR.step (s := (.val (.pointer (some ((⟨W.heap.size, 0, none⟩ : Addr).add 1))))) [(3, none)] rfl (by kernel_rfl) (op_runs rfl fun σ w' hx hg => ⟨_, runs_aidx (ρ := σ.eval) (w := w') (n := 2) Try.underlying32 hi0 hz1 (.tmp 3) (.const (.int .i64 1)) rfl hg.1 1 rfl (by omega), rfl⟩) ?_
  refine LinR.step (s := (.val (.int .u64 (kb.toNat : Int)))) [(20, some 0)] rfl (by kernel_rfl) (op_runs rfl fun σ w' hx hg => ⟨_, runs_load_at (ρ := σ.eval) (w := w') (.tmp 20) rfl Try.underlying22 hg.1 (hx.cell C1), rfl⟩) ?_
  refine LinR.step (s := (.val (v))) [(1, none)] rfl (by kernel_rfl) (op_out 1 (v) rfl (.inl rfl) rfl) ?_
  refine LinR.step (s := (Sp.parts [l])) [(22, some 0)] rfl (by kernel_rfl) (op_parts 1 _ [l] rfl rfl rfl (by omega) fun σ w' hx hg => ⟨[σ.tmps.getD 22 undef], rfl, rfl, byts1 (by rw [hg.1]; exact K.ext hx)⟩) ?_
  refine LinR.step (s := (.val (.int .u64 ((markB kb l).toNat : Int)))) [(21, some 2), (23, some 0)] rfl (by kernel_rfl) (op_calls 10 #[(.tmp 21), (.tmp 23)] #[22, 30] (fun σ => #[.int .u64 (kb.toNat : Int), σ.tmps.getD 23 undef]) rfl rfl (fun _ _ => rfl) fun σ w' hx hg => ⟨by have hk : σ.tmps.getD 21 undef = .int .u64 (kb.toNat : Int) := hg.1; simp only [List.map_toArray, List.map_cons, List.map_nil, Act.eval]; rw [hk], OfR kb _ [l] w' HB.out HL.out hg.2.1⟩) ?_
  refine LinR.step (s := (.val (.bool E))) [(19, some 5), (24, some 0)] rfl (by kernel_rfl) (op_runs rfl fun σ w' hx hg => ⟨(.bool E), by have h19 : σ.tmps.getD 19 undef = .int .u64 ((markB ka l).toNat : Int) := hg.1; have h24 : σ.tmps.getD 24 undef = .int .u64 ((markB kb l).toNat : Int) := hg.2.1; unfold Runs execOp; simp [Act.eval, h19, h24, go_sem, Q1.out], rfl⟩) ?_
  refine LinR.step (s := (.val (.pointer (some ((⟨W.heap.size, 0, none⟩ : Addr).add 0))))) [(3, none)] rfl (by kernel_rfl) (op_runs rfl fun σ w' hx hg => ⟨_, runs_aidx (ρ := σ.eval) (w := w') (n := 2) Try.underlying32 hi0 hz1 (.tmp 3) (.const (.int .i64 0)) rfl hg.1 0 rfl (by omega), rfl⟩) ?_
  refine LinR.step (s := (.val (.int .u64 (ka.toNat : Int)))) [(26, some 0)] rfl (by kernel_rfl) (op_runs rfl fun σ w' hx hg => ⟨_, runs_load_at (ρ := σ.eval) (w := w') (.tmp 26) rfl Try.underlying22 hg.1 (hx.cell C0), rfl⟩) ?_
  refine LinR.step (s := (.val (.pointer (some ((⟨W.heap.size, 0, none⟩ : Addr).add 1))))) [(3, none)] rfl (by kernel_rfl) (op_runs rfl fun σ w' hx hg => ⟨_, runs_aidx (ρ := σ.eval) (w := w') (n := 2) Try.underlying32 hi0 hz1 (.tmp 3) (.const (.int .i64 1)) rfl hg.1 1 rfl (by omega), rfl⟩) ?_
  refine LinR.step (s := (.val (.int .u64 (kb.toNat : Int)))) [(28, some 0)] rfl (by kernel_rfl) (op_runs rfl fun σ w' hx hg => ⟨_, runs_load_at (ρ := σ.eval) (w := w') (.tmp 28) rfl Try.underlying22 hg.1 (hx.cell C1), rfl⟩) ?_
  refine LinR.step (s := (.val (.bool E))) [(27, some 2), (29, some 0)] rfl (by kernel_rfl) (op_runs rfl fun σ w' hx hg => ⟨(.bool E), by have h27 : σ.tmps.getD 27 undef = .int .u64 (ka.toNat : Int) := hg.1; have h29 : σ.tmps.getD 29 undef = .int .u64 (kb.toNat : Int) := hg.2.1; unfold Runs execOp; simp [Act.eval, h27, h29, go_sem, Q2.out], rfl⟩) ?_
  refine LinR.step (s := (.val (.bool false))) [(25, some 5), (30, some 0)] rfl (by kernel_rfl) (op_runs rfl fun σ w' hx hg => ⟨(.bool false), by have h25 : σ.tmps.getD 25 undef = .bool E := hg.1; have h30 : σ.tmps.getD 30 undef = .bool E := hg.2.1; unfold Runs execOp; simp [Act.eval, h25, h30, go_sem], rfl⟩) ?_
  intro wN hxN
  simp only [Fin', Sp.parts, List.reverse_cons, List.reverse_nil, List.nil_append, List.cons_append]
  intro q18 hq18 q23 hq23
  simp only [Act.put, List.setIfInBounds_toArray, List.set_cons_zero, List.set_cons_succ]
  have hY := hX.drew.trans hxN
  have M := hv.ext hY
  have e0 := hxN.cell ((Ext.refl w1).drew.cell d0)
  have e1 := hxN.cell ((Ext.refl w1).drew.cell d1)
  clear K C0 C1 c0 c1 d0 d1 H1 hX hx1 hxN hq18 hq23
  go_wp2
  go_quiet (fail)
  rw [← Hx.out]
  have hY2 := hY.drewN nq
  have M2 := hv.ext hY2
  clear e0 e1
  obtain ⟨w2, hw2⟩ : ∃ w2, w2 = wN.drewN nq := ⟨_, rfl⟩
  rw [← hw2] at hY2 M2 ⊢
  clear hw2 M hY
  go_wp2_with (first
    | (refine w_yes _ _ _ rfl rfl rfl ?_; refine b_len _ rfl rfl rfl (by assumption) ?_)
    | (refine w_yes _ _ _ rfl rfl rfl ?_; refine b_idx _ _ i rfl rfl rfl (by assumption) rfl hi ?_; intro ad hc))
  go_ret
  exact Keep.intro ⟨rfl, hY2⟩

set_option maxRecDepth 100000 in
set_option maxHeartbeats 1000000 in
theorem turns_core (ka kb : BitVec 64) (v : Value) (l : List Nat) (i : Nat) (y : Int) (x : Nat) (W : World) (hv : Byt W v l) (hl : ∀ q ∈ l, q < 256) (hlong : l.length ≤ 1000) (hx : (x : Int) = y % 256) (hx8 : x < 256) (hi : i < l.length) (he : l[i] ≠ x) :
    Calls Try.prog 7 #[.agg #[.int .u64 (ka.toNat : Int), .int .u64 (kb.toNat : Int)], v, .agg #[.int .i64 (i : Int), .int .i64 y]] W fun e w' => e = .returned (.bool true) ∧ Ext W w' := by
  refine calls_keep ?_
  have ht : (decide ((1000 : Int) < (l.length : Int))) = false := by simp; omega
  obtain ⟨i0, hi0, hz0, hz1, hz2⟩ := info_parts Try.infoU64
  have Hx := hide_ hx
  have HB := hide_ (show ∀ q ∈ [l], ∀ z ∈ q, z < 256 from by simpa using hl)
  have HL := hide_ (show [l].flatten = l from by simp)
  obtain ⟨E, hE⟩ : ∃ E : Bool, E = decide (ka = kb) := ⟨_, rfl⟩
  have Q1 := hide_ (show ((((markB ka l).toNat : Nat) : Int) == (((markB kb l).toNat : Nat) : Int)) = E from by rw [bv_beq, hE]; exact decide_eq_decide.2 markB_key)
  have Q2 := hide_ (show (((ka.toNat : Nat) : Int) == ((kb.toNat : Nat) : Int)) = E from by rw [bv_beq, hE])
  have L0 : ([] : List Nat).length + l.length ≤ 140737488355328 := by simp; omega
  have HC := hide_ (show ∀ q ∈ [l.set i x], ∀ z ∈ q, z < 256 from by
    intro q hq; simp at hq; subst hq; intro z hz; rcases List.mem_or_eq_of_mem_set hz with h | h; exact hl z h; omega)
  have HD := hide_ (show [l.set i x].flatten = l.set i x from by simp)
  have Q3 := hide_ (show ((((markB ka (l.set i x)).toNat : Nat) : Int) != (((markB ka l).toNat : Nat) : Int)) = true from by
    have h := bv_beq (markB ka (l.set i x)) (markB ka l)
    rw [decide_eq_false (markB_set hi hx8 (hl _ (List.getElem_mem hi)) he)] at h
    simp only [bne, h]; rfl)
  have he2 : ((l[i] : Int) == (x : Int)) = false := by rw [beq_eq_false_iff_ne]; omega
  have hi2 : (decide (l.length ≤ i)) = false := by simp; omega
  clear hx hE he hl hx8
  go_enter Try.func7, Try.ntmps7
  go_upto_region 5 with (first
    | (go_at_call 3; refine (tagNames_any _).mono ?_; rintro e w1 ⟨rfl, hx1⟩; have hX := (((Ext.refl W).alloc _).alloc _).trans hx1; have H1 := hv.ext hX
       have c0 : w1.cell? ((⟨W.heap.size, 0, none⟩ : Addr).add 0) = some (.int .u64 (ka.toNat : Int)) := hx1.cell (by show World.cell? _ ⟨W.heap.size, 0, none⟩ = _; go_simp)
       have c1 : w1.cell? ((⟨W.heap.size, 0, none⟩ : Addr).add 1) = some (.int .u64 (kb.toNat : Int)) := hx1.cell (by show World.cell? _ ⟨W.heap.size, 1, none⟩ = _; go_simp)
       have d0 : w1.cell? ⟨W.heap.size + 1, 0, none⟩ = some (.int .i64 (i : Int)) := hx1.cell (by go_simp)
       have d1 : w1.cell? ⟨W.heap.size + 1, 1, none⟩ = some (.int .i64 y) := hx1.cell (by go_simp))
    | (refine b_len _ rfl rfl rfl (by assumption) ?_))
  have K := H1.ext (Ext.refl _).drew
  have C0 := (Ext.refl w1).drew.cell c0
  have C1 := (Ext.refl w1).drew.cell c1
  refine wp_region_linR (by kernel_rfl) (by kernel_rfl) ?_
  refine LinR.step (s := (.val (.pointer (some ((⟨W.heap.size, 0, none⟩ : Addr).add 0))))) [(3, none)] rfl (by kernel_rfl) (op_runs rfl fun σ w' hx hg => ⟨_, runs_aidx (ρ := σ.eval) (w := w') (n := 2) Try.underlying32 hi0 hz1 (.tmp 3) (.const (.int .i64 0)) rfl hg.1 0 rfl (by omega), rfl⟩) ?_
  refine LinR.step (s := (.val (.int .u64 (ka.toNat : Int)))) [(15, some 0)] rfl (by kernel_rfl) (op_runs rfl fun σ w' hx hg => ⟨_, runs_load_at (ρ := σ.eval) (w := w') (.tmp 15) rfl Try.underlying22 hg.1 (hx.cell C0), rfl⟩) ?_
  refine LinR.step (s := (.val (v))) [(1, none)] rfl (by kernel_rfl) (op_out 1 (v) rfl (.inl rfl) rfl) ?_
  refine LinR.step (s := (Sp.parts [l])) [(17, some 0)] rfl (by kernel_rfl) (op_parts 1 _ [l] rfl rfl rfl (by omega) fun σ w' hx hg => ⟨[σ.tmps.getD 17 undef], rfl, rfl, byts1 (by rw [hg.1]; exact K.ext hx)⟩) ?_
  refine LinR.step (s := (.val (.int .u64 ((markB ka l).toNat : Int)))) [(16, some 2), (18, some 0)] rfl (by kernel_rfl) (op_calls 10 #[(.tmp 16), (.tmp 18)] #[22, 30] (fun σ => #[.int .u64 (ka.toNat : Int), σ.tmps.getD 18 undef]) rfl rfl (fun _ _ => rfl) fun σ w' hx hg => ⟨by have hk : σ.tmps.getD 16 undef = .int .u64 (ka.toNat : Int) := hg.1; simp only [List.map_toArray, List.map_cons, List.map_nil, Act.eval]; rw [hk], OfR ka _ [l] w' HB.out HL.out hg.2.1⟩) ?_
  refine LinR.step (s := (.val (.pointer (some ((⟨W.heap.size, 0, none⟩ : Addr).add 1))))) [(3, none)] rfl (by kernel_rfl) (op_runs rfl fun σ w' hx hg => ⟨_, runs_aidx (ρ := σ.eval) (w := w') (n := 2) Try.underlying32 hi0 hz1 (.tmp 3) (.const (.int .i64 1)) rfl hg.1 1 rfl (by omega), rfl⟩) ?_
  refine LinR.step (s := (.val (.int .u64 (kb.toNat : Int)))) [(20, some 0)] rfl (by kernel_rfl) (op_runs rfl fun σ w' hx hg => ⟨_, runs_load_at (ρ := σ.eval) (w := w') (.tmp 20) rfl Try.underlying22 hg.1 (hx.cell C1), rfl⟩) ?_
  refine LinR.step (s := (.val (v))) [(1, none)] rfl (by kernel_rfl) (op_out 1 (v) rfl (.inl rfl) rfl) ?_
  refine LinR.step (s := (Sp.parts [l])) [(22, some 0)] rfl (by kernel_rfl) (op_parts 1 _ [l] rfl rfl rfl (by omega) fun σ w' hx hg => ⟨[σ.tmps.getD 22 undef], rfl, rfl, byts1 (by rw [hg.1]; exact K.ext hx)⟩) ?_
  refine LinR.step (s := (.val (.int .u64 ((markB kb l).toNat : Int)))) [(21, some 2), (23, some 0)] rfl (by kernel_rfl) (op_calls 10 #[(.tmp 21), (.tmp 23)] #[22, 30] (fun σ => #[.int .u64 (kb.toNat : Int), σ.tmps.getD 23 undef]) rfl rfl (fun _ _ => rfl) fun σ w' hx hg => ⟨by have hk : σ.tmps.getD 21 undef = .int .u64 (kb.toNat : Int) := hg.1; simp only [List.map_toArray, List.map_cons, List.map_nil, Act.eval]; rw [hk], OfR kb _ [l] w' HB.out HL.out hg.2.1⟩) ?_
  refine LinR.step (s := (.val (.bool E))) [(19, some 5), (24, some 0)] rfl (by kernel_rfl) (op_runs rfl fun σ w' hx hg => ⟨(.bool E), by have h19 : σ.tmps.getD 19 undef = .int .u64 ((markB ka l).toNat : Int) := hg.1; have h24 : σ.tmps.getD 24 undef = .int .u64 ((markB kb l).toNat : Int) := hg.2.1; unfold Runs execOp; simp [Act.eval, h19, h24, go_sem, Q1.out], rfl⟩) ?_
  refine LinR.step (s := (.val (.pointer (some ((⟨W.heap.size, 0, none⟩ : Addr).add 0))))) [(3, none)] rfl (by kernel_rfl) (op_runs rfl fun σ w' hx hg => ⟨_, runs_aidx (ρ := σ.eval) (w := w') (n := 2) Try.underlying32 hi0 hz1 (.tmp 3) (.const (.int .i64 0)) rfl hg.1 0 rfl (by omega), rfl⟩) ?_
  refine LinR.step (s := (.val (.int .u64 (ka.toNat : Int)))) [(26, some 0)] rfl (by kernel_rfl) (op_runs rfl fun σ w' hx hg => ⟨_, runs_load_at (ρ := σ.eval) (w := w') (.tmp 26) rfl Try.underlying22 hg.1 (hx.cell C0), rfl⟩) ?_
  refine LinR.step (s := (.val (.pointer (some ((⟨W.heap.size, 0, none⟩ : Addr).add 1))))) [(3, none)] rfl (by kernel_rfl) (op_runs rfl fun σ w' hx hg => ⟨_, runs_aidx (ρ := σ.eval) (w := w') (n := 2) Try.underlying32 hi0 hz1 (.tmp 3) (.const (.int .i64 1)) rfl hg.1 1 rfl (by omega), rfl⟩) ?_
  refine LinR.step (s := (.val (.int .u64 (kb.toNat : Int)))) [(28, some 0)] rfl (by kernel_rfl) (op_runs rfl fun σ w' hx hg => ⟨_, runs_load_at (ρ := σ.eval) (w := w') (.tmp 28) rfl Try.underlying22 hg.1 (hx.cell C1), rfl⟩) ?_
  refine LinR.step (s := (.val (.bool E))) [(27, some 2), (29, some 0)] rfl (by kernel_rfl) (op_runs rfl fun σ w' hx hg => ⟨(.bool E), by have h27 : σ.tmps.getD 27 undef = .int .u64 (ka.toNat : Int) := hg.1; have h29 : σ.tmps.getD 29 undef = .int .u64 (kb.toNat : Int) := hg.2.1; unfold Runs execOp; simp [Act.eval, h27, h29, go_sem, Q2.out], rfl⟩) ?_
  refine LinR.step (s := (.val (.bool false))) [(25, some 5), (30, some 0)] rfl (by kernel_rfl) (op_runs rfl fun σ w' hx hg => ⟨(.bool false), by have h25 : σ.tmps.getD 25 undef = .bool E := hg.1; have h30 : σ.tmps.getD 30 undef = .bool E := hg.2.1; unfold Runs execOp; simp [Act.eval, h25, h30, go_sem], rfl⟩) ?_
  intro wN hxN
  simp only [Fin', Sp.parts, List.reverse_cons, List.reverse_nil, List.nil_append, List.cons_append]
  intro q18 hq18 q23 hq23
  simp only [Act.put, List.setIfInBounds_toArray, List.set_cons_zero, List.set_cons_succ]
  have hY := hX.drew.trans hxN
  have M := hv.ext hY
  have e0 := hxN.cell ((Ext.refl w1).drew.cell d0)
  have e1 := hxN.cell ((Ext.refl w1).drew.cell d1)
  have e2 := hxN.cell C0
  clear K C0 C1 c0 c1 d0 d1 H1 hX hx1 hxN hq18 hq23
  go_wp2
  go_quiet (fail)
  rw [← Hx.out]
  have hY2 := hY.drewN nq
  have M2 := hv.ext hY2
  have E2 := (Ext.ofDrewN wN nq).cell e2
  clear e0 e1
  obtain ⟨w2, hw2⟩ : ∃ w2, w2 = wN.drewN nq := ⟨_, rfl⟩
  rw [← hw2] at hY2 M2 E2 ⊢
  clear hw2 M hY e2
  go_upto_region 10 with (first
    | (refine w_yes _ _ _ rfl rfl rfl ?_; refine b_len _ rfl rfl rfl (by assumption) ?_)
    | (refine w_yes _ _ _ rfl rfl rfl ?_; refine b_idx _ _ i rfl rfl rfl (by assumption) rfl hi ?_; intro ad hc))
  go_upto_region 11 with (first
    | (refine w_bytes (o := ⟨some 53, _, _, _, _, _⟩) [] rfl rfl rfl rfl (by omega) ?_; intro v53 w53 hx53 ho53; have G53 := M2.ext hx53; have s53 := hx53.size)
    | (at_builtin; refine appb (o := ⟨some 55, _, _, _, _, _⟩) (.tmp 53) (.tmp 54) rfl rfl rfl rfl ho53 G53 L0 s53 ?_; intro v55 w55 ho55 hb55 hg55; have hx55 := hx53.trans' hb55; have s55 := hx55.size; clear ho53 G53 hb55 hg55 hx53))
  go_upto_region 12 with (first
    | (refine w_oidx Try.elB (o := ⟨some 59, _, _, _, _, _⟩) (.tmp 56) (.tmp 57) rfl rfl rfl ho55 rfl (by rw [u8s_length]; simpa using hi) ?_; intro g hg hgb hgs)
    | (refine w_ostore Try.elB (.tmp 59) (.tmp 58) (u := .int .u8 (x : Int)) rfl rfl rfl rfl rfl rfl rfl ho55 hg (by rw [u8s_length]; simpa using hi) ?_; intro w59 hb59 ho59))
  have hx59 := hx55.trans' hb59
  have Y59 := hY2.trans hx59
  have A59 : Byt w59 v55 (l.set i x) := by
    have h := Sl.of_own ho59
    unfold Byt; rw [show u8s (l.set i x) = (u8s ([] ++ l)).set i (.int .u8 (x : Int)) from by simp [u8s, List.map_set]]; exact h
  have K := (hv.ext Y59).ext (Ext.refl _).drew
  have KA := A59.ext (Ext.refl _).drew
  have C0 := (Ext.refl w59).drew.cell (hx59.cell E2)
  refine wp_region_linR (by kernel_rfl) (by kernel_rfl) ?_
  refine LinR.step (s := (.val (.pointer (some ((⟨W.heap.size, 0, none⟩ : Addr).add 0))))) [(3, none)] rfl (by kernel_rfl) (op_runs rfl fun σ w' hx hg => ⟨_, runs_aidx (ρ := σ.eval) (w := w') (n := 2) Try.underlying32 hi0 hz1 (.tmp 3) (.const (.int .i64 0)) rfl hg.1 0 rfl (by omega), rfl⟩) ?_
  refine LinR.step (s := (.val (.int .u64 (ka.toNat : Int)))) [(60, some 0)] rfl (by kernel_rfl) (op_runs rfl fun σ w' hx hg => ⟨_, runs_load_at (ρ := σ.eval) (w := w') (.tmp 60) rfl Try.underlying22 hg.1 (hx.cell C0), rfl⟩) ?_
  refine LinR.step (s := (.val (v55))) [(9, none)] rfl (by kernel_rfl) (op_out 9 (v55) rfl (.inl rfl) rfl) ?_
  refine LinR.step (s := (Sp.parts [l.set i x])) [(62, some 0)] rfl (by kernel_rfl) (op_parts 1 _ [l.set i x] rfl rfl rfl (by omega) fun σ w' hx hg => ⟨[σ.tmps.getD 62 undef], rfl, rfl, byts1 (by rw [hg.1]; exact KA.ext hx)⟩) ?_
  refine LinR.step (s := (.val (.int .u64 ((markB ka (l.set i x)).toNat : Int)))) [(61, some 2), (63, some 0)] rfl (by kernel_rfl) (op_calls 10 #[(.tmp 61), (.tmp 63)] #[22, 30] (fun σ => #[.int .u64 (ka.toNat : Int), σ.tmps.getD 63 undef]) rfl rfl (fun _ _ => rfl) fun σ w' hx hg => ⟨by have hk : σ.tmps.getD 61 undef = .int .u64 (ka.toNat : Int) := hg.1; simp only [List.map_toArray, List.map_cons, List.map_nil, Act.eval]; rw [hk], OfR ka _ [(l.set i x)] w' HC.out HD.out hg.2.1⟩) ?_
  refine LinR.step (s := (.val (.pointer (some ((⟨W.heap.size, 0, none⟩ : Addr).add 0))))) [(3, none)] rfl (by kernel_rfl) (op_runs rfl fun σ w' hx hg => ⟨_, runs_aidx (ρ := σ.eval) (w := w') (n := 2) Try.underlying32 hi0 hz1 (.tmp 3) (.const (.int .i64 0)) rfl hg.1 0 rfl (by omega), rfl⟩) ?_
  refine LinR.step (s := (.val (.int .u64 (ka.toNat : Int)))) [(65, some 0)] rfl (by kernel_rfl) (op_runs rfl fun σ w' hx hg => ⟨_, runs_load_at (ρ := σ.eval) (w := w') (.tmp 65) rfl Try.underlying22 hg.1 (hx.cell C0), rfl⟩) ?_
  refine LinR.step (s := (.val (v))) [(1, none)] rfl (by kernel_rfl) (op_out 1 (v) rfl (.inl rfl) rfl) ?_
  refine LinR.step (s := (Sp.parts [l])) [(67, some 0)] rfl (by kernel_rfl) (op_parts 1 _ [l] rfl rfl rfl (by omega) fun σ w' hx hg => ⟨[σ.tmps.getD 67 undef], rfl, rfl, byts1 (by rw [hg.1]; exact K.ext hx)⟩) ?_
  refine LinR.step (s := (.val (.int .u64 ((markB ka l).toNat : Int)))) [(66, some 2), (68, some 0)] rfl (by kernel_rfl) (op_calls 10 #[(.tmp 66), (.tmp 68)] #[22, 30] (fun σ => #[.int .u64 (ka.toNat : Int), σ.tmps.getD 68 undef]) rfl rfl (fun _ _ => rfl) fun σ w' hx hg => ⟨by have hk : σ.tmps.getD 66 undef = .int .u64 (ka.toNat : Int) := hg.1; simp only [List.map_toArray, List.map_cons, List.map_nil, Act.eval]; rw [hk], OfR ka _ [l] w' HB.out HL.out hg.2.1⟩) ?_
  refine LinR.step (s := (.val (.bool true))) [(64, some 5), (69, some 0)] rfl (by kernel_rfl) (op_runs rfl fun σ w' hx hg => ⟨(.bool true), by have h64 : σ.tmps.getD 64 undef = .int .u64 ((markB ka (l.set i x)).toNat : Int) := hg.1; have h69 : σ.tmps.getD 69 undef = .int .u64 ((markB ka l).toNat : Int) := hg.2.1; unfold Runs execOp; simp [Act.eval, h64, h69, go_sem, Q3.out], rfl⟩) ?_
  refine LinR.step (s := (.val (.bool true))) [(70, some 0)] rfl (by kernel_rfl) (op_copy 70 0 (.val (.bool true)) rfl (.inr rfl) rfl) ?_
  intro wN hxN
  simp only [Fin', Sp.parts, List.reverse_cons, List.reverse_nil, List.nil_append, List.cons_append]
  intro q63 hq63 q68 hq68
  simp only [Act.put, List.setIfInBounds_toArray, List.set_cons_zero, List.set_cons_succ]
  have hF := Y59.drew.trans hxN
  go_wp2
  go_ret
  exact Keep.intro ⟨rfl, hF⟩

theorem turns_bv (ka kb : BitVec 64) (v : Value) (l : List Nat) (z y : Int) (W : World) (hv : Byt W v l) (hl : ∀ q ∈ l, q < 256) :
    Calls Try.prog 7 #[.agg #[.int .u64 (ka.toNat : Int), .int .u64 (kb.toNat : Int)], v, .agg #[.int .i64 z, .int .i64 y]] W fun e w' => e = .returned (.bool true) ∧ Ext W w' := by
  by_cases h1 : 1000 < l.length
  · exact turns_long ka kb v l z y W hv h1
  · obtain ⟨x, hx⟩ : ∃ x : Nat, (x : Int) = y % 256 := ⟨(y % 256).toNat, by omega⟩
    have hx8 : x < 256 := by omega
    by_cases hz : z < 0
    · exact turns_neg ka kb v l z y x W hv hl (by omega) hx hz
    · obtain ⟨i, rfl⟩ := Int.eq_ofNat_of_zero_le (show 0 ≤ z by omega)
      by_cases hi : l.length ≤ i
      · exact turns_out ka kb v l i y x W hv hl (by omega) hx hi
      · by_cases he : l[i]'(by omega) = x
        · exact turns_same ka kb v l i y x W hv hl (by omega) hx (by omega) he
        · exact turns_core ka kb v l i y x W hv hl (by omega) hx hx8 (by omega) he

theorem tagTurns_law (a b : Int) (v u1 u2 : Value) (l : List Nat) (z y : Int) (W : World) (ha : 0 ≤ a ∧ a < 18446744073709551616) (hb : 0 ≤ b ∧ b < 18446744073709551616) (h1 : u1 = .agg #[.int .u64 a, .int .u64 b]) (h2 : u2 = .agg #[.int .i64 z, .int .i64 y]) (hv : Byt W v l) (hl : ∀ q ∈ l, q < 256) :
    Calls Try.prog 7 #[u1, v, u2] W fun e w' => e = .returned (.bool true) ∧ Ext W w' := by
  subst h1 h2
  obtain ⟨n, rfl⟩ := Int.eq_ofNat_of_zero_le ha.1
  obtain ⟨m, rfl⟩ := Int.eq_ofNat_of_zero_le hb.1
  have hn : (n : Int) = ((BitVec.ofNat 64 n).toNat : Int) := by rw [BitVec.toNat_ofNat, Nat.mod_eq_of_lt (by omega)]
  have hm : (m : Int) = ((BitVec.ofNat 64 m).toNat : Int) := by rw [BitVec.toNat_ofNat, Nat.mod_eq_of_lt (by omega)]
  rw [hn, hm]
  exact turns_bv _ _ v l z y W hv hl

set_option maxRecDepth 100000 in
theorem tagTurns_lifted (os : Os) (started : os.Started) (H : Type) (enc : TypeId × Value → H) :
    ReturnsInHanded {} Try.checked os 7 .any (Rows.tagTurnsSpec.pre6 enc Try.prog Try.f7 Rows.tagTurnsRow.domain false) (Rows.tagTurnsSpec.post enc Try.prog Try.f7 false true false false) := by
  refine law_lifted (s := Rows.tagTurnsSpec) (conds := Rows.tagTurnsRow.domain) Try.func7 (by kernel_rfl) rfl (fun H ds h => by
      rw [show Try.f7.params.size = 3 from rfl] at h
      match ds, h with
      | [d0, d1, d2], _ => rfl) rfl rfl (by decide +kernel) os started H enc
    (ChangeSpec.witness6 (enc := enc) (C := Try.checked) false ⟨#[], #[.agg #[.int .u64 0, .int .u64 0], .slice none 0 0, .agg #[.int .i64 0, .int .i64 0]], []⟩ 8 (by kernel_rfl) (by kernel_rfl) (by kernel_rfl) (by kernel_rfl)) ?_
  intro W base args ds p hval hA hsz _
  have hp : Try.f7.params.toList = [32, 26, 33] := rfl
  rw [hp] at hA hsz
  obtain ⟨v0, v1, v2, d0, d1, d2, p0, p1, p2, rfl, rfl, rfl, h0, h1, h2⟩ := trodAll_three hA
  obtain ⟨x0, y0, rfl, b0, c0⟩ := open_int_array2 Try.underlying32 Try.underlying22 (by kernel_rfl) (by kernel_rfl) (hval 0 32 v0 rfl rfl) h0
  simp [Lit.wf, IntKind.min, IntKind.max, IntKind.signed, IntKind.bits] at b0 c0
  obtain ⟨l1, a1, b1, c1⟩ := arg_bytes hsz (j := 1) rfl rfl (hval 1 26 v1 rfl rfl) h1
  obtain ⟨x2, y2, rfl, b2, c2⟩ := open_int_array2 Try.underlying33 Try.underlying3 (by kernel_rfl) (by kernel_rfl) (hval 2 33 v2 rfl rfl) h2
  simp [Lit.wf, IntKind.min, IntKind.max, IntKind.signed, IntKind.bits] at b2 c2
  exact tagTurns_law x0 y0 v1 _ _ l1 x2 y2 W (by omega) (by omega) rfl rfl a1 b1

theorem tagTurns_holds : Rows.TagTurnsSaid :=
  OpenClaim.holds_of_wide 7 Try.f7 rfl rfl rfl rfl rfl rfl rfl ⟨rfl, rfl, rfl, rfl, rfl⟩ rfl rfl rfl rfl rfl (by kernel_rfl) Try.func7 (by kernel_rfl)
    (of_decide_eq_true (by kernel_rfl)) (by unfold Func.isWrapper; first | (rw [if_pos (by decide +kernel)]; kernel_rfl) | (rw [if_neg (by decide +kernel)]; exact ⟨rfl, rfl⟩))
    (fun os started H enc _ => tagTurns_lifted os started H enc)
#print axioms tagTurns_holds

end Go.Proofs.Ytdnppmpgpkpapaa
