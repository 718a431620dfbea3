/- The contracts of package disk. Condition: a disk that the call owns. -/
import Derived.Test.YtfhecifgpjbeiaaDskN
import Derived.Test.YtfhecifgpjbeiaaRowStep
import Derived.Test.YtfhecifgpjbeiaaRegP
import Derived.Test.YtfhecifgpjbeiaaRegStep
import Derived.Test.YtfhecifgpjbeiaaBuild
namespace Go.Proofs.Ytfhecifgpjbeiaa
open Go.RowKit

theorem Try.stD : St Try.prog 72 3 [.slice none 0 0, .int .i64 0, .int .i64 0] := St.of (by kernel_rfl) (by kernel_rfl) rfl

/-- p is a disk that reads as D; all its blocks are in F. -/
structure Dsk (F : Nat → Prop) (w : World) (p : Value) (D : DSt) : Prop where
  mk ::
  ex : ∃ g v, p = .pointer (some ⟨g, 0, none⟩) ∧ F g ∧ Fs w g [v, .int .i64 D.s, .int .i64 D.lim] ∧ Row (fun k => F k ∧ k ≠ g) w 5 v (u8s D.l)
  ok : D.Ok
  bd : ∀ k, F k → k < w.heap.size
theorem Dsk.ext {F : Nat → Prop} {w w' : World} {p : Value} {D : DSt} (h : Dsk F w p D) (he : Ext w w') : Dsk F w' p D := by
  obtain ⟨⟨g, v, h1, h2, h3, h4⟩, ho, hb⟩ := h
  exact ⟨⟨g, v, h1, h2, h3.ext he, h4.ext he⟩, ho, fun k hk => Nat.lt_of_lt_of_le (hb k hk) he.size⟩
theorem Dsk.mod {F G : Nat → Prop} {w w' : World} {p : Value} {D : DSt} (h : Dsk F w p D) (hm : Mod G w w') (hd : ∀ k, F k → ¬ G k) : Dsk F w' p D := by
  obtain ⟨⟨g, v, h1, h2, h3, h4⟩, ho, hb⟩ := h
  exact ⟨⟨g, v, h1, h2, h3.mod hm (hd g h2), h4.mod hm fun k hk => hd k hk.1⟩, ho, fun k hk => Nat.lt_of_lt_of_le (hb k hk) hm.size⟩

set_option maxRecDepth 100000 in
theorem between_any (n : Int) (m : Nat) (w : World) : Calls Try.prog 38 #[.int .i64 n, .int .i64 m] w fun e w' => e = .returned (.int .i64 (bet n m : Nat)) ∧ w = w' := by
  refine calls_keep ?_
  have hb := hide_ (bet_int n m)
  go_enter Try.func38, Try.ntmps38
  go_wp2_with (first
    | (refine w_max _ _ (max n 0) rfl rfl rfl rfl rfl ?_)
    | (refine w_min _ _ (bet n m : Nat) hb.out rfl rfl rfl rfl ?_))
  go_ret
  exact Keep.intro ⟨rfl, rfl⟩

set_option maxRecDepth 100000 in
theorem New_any (n : Int) (w : World) : Calls Try.prog 15 #[.int .i64 n] w fun e w' => ∃ p, e = .returned p ∧ Ext w w' ∧ Dsk (fun k => w.heap.size ≤ k ∧ k < w'.heap.size) w' p (.new n) := by
  refine calls_keep ?_
  go_enter Try.func15, Try.ntmps15
  go_wp2_with (first
    | (go_at_call 38; refine (between_any n 65536 w).mono ?_; rintro e w' ⟨rfl, rfl⟩))
  go_ret
  exact Keep.intro ⟨_, rfl, (Ext.refl w).alloc _, ⟨⟨_, _, rfl, by simp, Fs.alloc w _ _, Row.nil _ _⟩, DSt.Ok.new n, fun k hk => hk.2⟩⟩


set_option maxRecDepth 100000 in
theorem Synced_any {F : Nat → Prop} {p : Value} {D : DSt} {w : World} (h : Dsk F w p D) : Calls Try.prog 29 #[p] w fun e w' => e = .returned (.int .i64 (D.s : Nat)) ∧ w = w' := by
  obtain ⟨⟨g, v, rfl, hg, hf, hr⟩, ho, hb⟩ := h
  refine calls_keep ?_
  go_enter Try.func29, Try.ntmps29
  go_wp2_with (first
    | (refine w_field Try.stD _ _ _ rfl rfl rfl (by omega) ?_)
    | (refine w_fload _ rfl rfl rfl hf rfl (agg_of (by kernel_rfl)) ?_))
  go_ret
  exact Keep.intro ⟨rfl, rfl⟩

/-- A disk whose cells and row are known. -/
theorem Dsk.made {F : Nat → Prop} {w : World} {g : Nat} {v : Value} {D : DSt} (hg : F g) (hf : Fs w g [v, .int .i64 D.s, .int .i64 D.lim]) (hr : Row (fun k => F k ∧ k ≠ g) w 5 v (u8s D.l)) (ho : D.Ok) (hb : ∀ k, F k → k < w.heap.size) : Dsk F w (.pointer (some ⟨g, 0, none⟩)) D :=
  ⟨⟨g, v, rfl, hg, hf, hr⟩, ho, hb⟩

set_option maxRecDepth 100000 in
theorem Sync_any {F : Nat → Prop} {p : Value} {D : DSt} {w : World} (h : Dsk F w p D) : Calls Try.prog 19 #[p] w fun e w' => e = .returned (.tuple #[]) ∧ Mod F w w' ∧ Dsk F w' p D.sync := by
  obtain ⟨⟨g, v, rfl, hg, hf, hr⟩, ho, hb⟩ := h
  refine calls_keep ?_
  go_enter Try.func19, Try.ntmps19
  go_wp2_with (first
    | (refine w_field Try.stD _ _ _ rfl rfl rfl (by omega) ?_)
    | (refine w_fload _ rfl rfl rfl hf rfl (agg_of (by kernel_rfl)) ?_)
    | (refine b_len _ rfl rfl (v := v) rfl hr.sl ?_)
    | (refine w_fstore (u := .int .i64 D.l.length) _ _ rfl rfl rfl rfl rfl hf (by simp) rfl rfl (by kernel_rfl) ?_; intro w1 hm1 hf1))
  go_end0
  exact Keep.intro ⟨rfl, hm1.mono fun k _ e => e ▸ hg, Dsk.made hg hf1 (hr.mod hm1 fun k hk e => hk.2 e) ho.sync fun k hk => Nat.lt_of_lt_of_le (hb k hk) hm1.size⟩

set_option maxRecDepth 100000 in
theorem Room_any {F : Nat → Prop} {p : Value} {D : DSt} {w : World} (h : Dsk F w p D) : Calls Try.prog 39 #[p] w fun e w' => e = .returned (.int .i64 (D.room : Nat)) ∧ Ext w w' := by
  obtain ⟨⟨g, v, rfl, hg, hf, hr⟩, ⟨o1, o2, o3⟩, hb⟩ := h
  refine calls_keep ?_
  have hrm : ((D.room : Nat) : Int) = max ((D.lim : Int) - (D.l.length : Int)) 0 := by unfold DSt.room; omega
  have Hr := hide_ hrm
  clear hrm
  go_enter Try.func39, Try.ntmps39
  go_wp2
  refine wp_region_phx (by kernel_rfl) ?_; intro wd hxd; have Hf := hf.ext hxd; have Kr := (show Byt w v D.l from hr.sl).ext hxd
  refine Ph.rest 0 12 (by kernel_rfl) ?_
  refine LinL.step (s := (.val (.pointer (some ⟨g, 0, none⟩)))) [(0, none)] rfl (by kernel_rfl) (op_out 0 (.pointer (some ⟨g, 0, none⟩)) rfl (.inl rfl) rfl) ?_
  refine LinL.step (s := (.val (.pointer (some ⟨g, 0, none⟩)))) [(3, some 0)] rfl (by kernel_rfl) (op_runs rfl fun σ w' hx hg => ⟨_, runs_nil (ρ := σ.eval) (w := w') (.tmp 3) rfl hg.1, rfl⟩) ?_
  refine LinL.step (s := (.val (.pointer (some ⟨g, 2, none⟩)))) [(4, some 0)] rfl (by kernel_rfl) (op_runs rfl fun σ w' hx hg => ⟨_, runs_field (ρ := σ.eval) (w := w') Try.stD (.tmp 4) g 2 rfl hg.1 (by omega), rfl⟩) ?_
  refine LinL.step (s := (.val (.int .i64 (D.lim : Nat)))) [(5, some 0)] rfl (by kernel_rfl) (op_runs rfl fun σ w' hx hg => ⟨_, runs_fload (ρ := σ.eval) (w := w') (.tmp 5) rfl hg.1 (agg_of (by kernel_rfl) _) (Hf.ext hx) rfl, rfl⟩) ?_
  refine LinL.step (s := (.val (.pointer (some ⟨g, 0, none⟩)))) [(0, none)] rfl (by kernel_rfl) (op_out 0 (.pointer (some ⟨g, 0, none⟩)) rfl (.inl rfl) rfl) ?_
  refine LinL.step (s := (.val (.pointer (some ⟨g, 0, none⟩)))) [(7, some 0)] rfl (by kernel_rfl) (op_runs rfl fun σ w' hx hg => ⟨_, runs_nil (ρ := σ.eval) (w := w') (.tmp 7) rfl hg.1, rfl⟩) ?_
  refine LinL.step (s := (.val (.pointer (some ⟨g, 0, none⟩)))) [(8, some 0)] rfl (by kernel_rfl) (op_runs rfl fun σ w' hx hg => ⟨_, runs_field (ρ := σ.eval) (w := w') Try.stD (.tmp 8) g 0 rfl hg.1 (by omega), rfl⟩) ?_
  refine LinL.step (s := (.val (v))) [(9, some 0)] rfl (by kernel_rfl) (op_runs rfl fun σ w' hx hg => ⟨_, runs_fload (ρ := σ.eval) (w := w') (.tmp 9) rfl hg.1 (agg_of (by kernel_rfl) _) (Hf.ext hx) rfl, rfl⟩) ?_
  refine LinL.step (s := (.val (.int .i64 (D.l.length : Nat)))) [(10, some 0)] rfl (by kernel_rfl) (op_runs rfl fun σ w' hx hg => ⟨_, runs_lenb (ρ := σ.eval) (w := w') (.tmp 10) rfl hg.1 (Kr.ext hx), rfl⟩) ?_
  refine LinL.step (s := (.val (.int .i64 ((D.lim : Int) - (D.l.length : Int))))) [(6, some 5), (11, some 0)] rfl (by kernel_rfl) (op_runs rfl fun σ w' hx hg => ⟨_, runs_sub (ρ := σ.eval) (w := w') (.tmp 6) (.tmp 11) (((D.lim : Int) - (D.l.length : Int))) (by omega) (by omega) rfl hg.1 hg.2.1, rfl⟩) ?_
  refine LinL.step (s := (.val (.int .i64 (D.room : Nat)))) [(12, some 0)] rfl (by kernel_rfl) (op_runs rfl fun σ w' hx hg => ⟨_, runs_max (ρ := σ.eval) (w := w') (.tmp 12) (.const (.int .i64 0)) ((D.room : Nat)) (by exact Hr.out) rfl hg.1 rfl, rfl⟩) ?_
  refine LinL.step (s := (.val (.int .i64 (D.room : Nat)))) [(13, some 0)] rfl (by kernel_rfl) (op_copy 13 0 (.val (.int .i64 (D.room : Nat))) rfl (.inr rfl) rfl) ?_
  intro wN hxN
  simp only [Fin', List.reverse_cons, List.reverse_nil, List.nil_append, List.cons_append, List.drop_zero, List.drop_succ_cons, List.take_succ_cons, List.take_zero]
  simp only [Act.put, List.setIfInBounds_toArray, List.set_cons_zero, List.set_cons_succ]
  go_wp2
  go_ret
  exact Keep.intro ⟨rfl, hxd.trans hxN⟩

set_option maxRecDepth 100000 in
theorem Bytes_any {F : Nat → Prop} {p : Value} {D : DSt} {w : World} (h : Dsk F w p D) : Calls Try.prog 25 #[p] w fun e w' => ∃ v, e = .returned v ∧ Ext w w' ∧ Row (fun k => w.heap.size ≤ k ∧ k < w'.heap.size) w' 5 v (u8s D.l) := by
  obtain ⟨⟨g, v, rfl, hg, hf, hr⟩, ⟨o1, o2, o3⟩, hb⟩ := h
  refine calls_keep ?_
  go_enter Try.func25, Try.ntmps25
  go_wp2_with (first
    | (refine w_field Try.stD _ _ _ rfl rfl rfl (by omega) ?_)
    | (refine w_fload (w := w) _ rfl rfl rfl hf rfl (agg_of (by kernel_rfl)) ?_)
    | (refine w_fload _ rfl rfl rfl (hf.ext hx1) rfl (agg_of (by kernel_rfl)) ?_)
    | (refine b_len _ rfl rfl (v := v) rfl hr.sl ?_)
    | (refine w_make Try.elB _ _ D.l.length rfl rfl rfl rfl rfl (by omega) (by unfold maxLen; omega) ?_; intro v1 w1 hx1 hr1)
    | (refine w_copy Try.elB (.tmp 10) (.tmp 14) rfl rfl rfl rfl hr1 (hr.sl.ext hx1) (by simp [u8s_length]) (u8s_one _) ?_; intro w2 hm2 hr2))
  go_ret
  exact Keep.intro ⟨_, rfl, hm2.after hx1 fun i hi => hi.1, hr2.mono fun k hk => ⟨hk.1, Nat.lt_of_lt_of_le hk.2 hm2.size⟩⟩

set_option maxRecDepth 100000 in
theorem Append_any {F : Nat → Prop} {p b : Value} {D : DSt} {l : List Nat} {w : World} (h : Dsk F w p D) (hbt : Byt w b l) : Calls Try.prog 23 #[p, b] w fun e w' => ∃ F', e = .returned (.int .i64 (D.err l : Nat)) ∧ Upd F F' w w' ∧ Dsk F' w' p (D.app l) := by
  have hD := h
  obtain ⟨⟨g, v, rfl, hg, hf, hr⟩, ho, hb⟩ := h
  obtain ⟨o1, o2, o3⟩ := ho
  refine calls_keep ?_
  by_cases hfit : l.length ≤ D.room
  · have t0 : decide (D.room < l.length) = false := by simp; omega
    have E1 := hide_ (show D.err l = 0 from if_pos hfit)
    have E2 := hide_ (show D.app l = { D with l := D.l ++ l } from if_pos hfit)
    have hsum := hide_ (show ((u8s D.l).length + (u8s l).length) * 1 ≤ 140737488355328 from by rw [u8s_length, u8s_length]; unfold DSt.room at hfit; omega)
    clear hfit
    go_enter Try.func23, Try.ntmps23
    go_wp2_with (first
      | (refine b_len _ rfl rfl (v := b) rfl hbt ?_)
      | (go_at_call 39; refine (Room_any hD).mono ?_; rintro e w1 ⟨rfl, hx1⟩)
      | (refine w_field Try.stD _ _ _ rfl rfl rfl (by omega) ?_)
      | (refine w_fload _ rfl rfl rfl (hf.ext hx1) rfl (agg_of (by kernel_rfl)) ?_)
      | (refine w_rapp Try.elB (.tmp 14) (.tmp 15) rfl rfl rfl rfl (hr.ext hx1) (hbt.ext hx1) (u8s_one _) hsum.out ?_; intro v2 w2 hm2 hr2 _; have hf2 := (hf.ext hx1).mod hm2 fun h => h.2 rfl)
      | (refine w_fstore (u := v2) _ _ rfl rfl rfl rfl rfl hf2 (by simp) hr2.sl.oneCell hr2.sl.one' (by kernel_rfl) ?_; intro w3 hm3 hf3))
    go_ret
    have hgs := hb g hg
    have hx1s := hx1.size
    have hM : Mod F w w3 := ((hx1.mod F).trans hm2 fun k _ hk => hk.1).trans hm3 fun k _ hk => hk ▸ hg
    have hms := hm3.size
    have hr3 : Row (fun k => grow F w w3 k ∧ k ≠ g) w3 5 v2 (u8s (D.l ++ l)) := by
      rw [u8s_append]
      refine (hr2.mod hm3 fun k hk e => ?_).mono fun k hk => ?_
      · rcases hk with hk | hk
        · exact hk.2 e
        · omega
      · rcases hk with hk | hk
        · exact ⟨.inl hk.1, hk.2⟩
        · exact ⟨.inr ⟨by omega, by omega⟩, by omega⟩
    refine Keep.intro ⟨grow F w w3, by rw [E1.out]; rfl, Upd.grow hM, ?_⟩
    rw [E2.out]
    refine Dsk.made (.inl hg) hf3 hr3 (by have := (DSt.Ok.mk o1 o2 o3).app l; rwa [E2.out] at this) fun k hk => ?_
    rcases hk with hk | hk
    · exact Nat.lt_of_lt_of_le (hb k hk) hM.size
    · exact hk.2
  · have t0 : decide (D.room < l.length) = true := by simp; omega
    have E1 := hide_ (show D.err l = 41 from if_neg hfit)
    have E2 := hide_ (show D.app l = D from if_neg hfit)
    clear hfit
    go_enter Try.func23, Try.ntmps23
    go_wp2_with (first
      | (refine b_len _ rfl rfl (v := b) rfl hbt ?_)
      | (go_at_call 39; refine (Room_any hD).mono ?_; rintro e w1 ⟨rfl, hx1⟩))
    go_ret
    exact Keep.intro ⟨F, by rw [E1.out]; rfl, Upd.ofExt hx1 F, by rw [E2.out]; exact hD.ext hx1⟩

set_option maxRecDepth 100000 in
theorem Crash_any {F : Nat → Prop} {p : Value} {D : DSt} {w : World} (n : Int) (h : Dsk F w p D) : Calls Try.prog 21 #[p, .int .i64 n] w fun e w' => e = .returned (.tuple #[]) ∧ Mod F w w' ∧ Dsk F w' p (D.crash n) := by
  obtain ⟨⟨g, v, rfl, hg, hf, hr⟩, ho, hb⟩ := h
  refine calls_keep ?_
  have hok := hide_ (ho.crash n)
  obtain ⟨o1, o2, o3⟩ := ho
  have hbl := bet_le n (D.l.length - D.s)
  obtain ⟨x, hx⟩ : ∃ x, x = D.s + bet n (D.l.length - D.s) := ⟨_, rfl⟩
  have hxl : x ≤ D.l.length := by omega
  have Hx := hide_ hx
  go_enter Try.func21, Try.ntmps21
  go_wp2
  refine wp_region_phx (by kernel_rfl) ?_; intro wd hxd; have Hf := hf.ext hxd; have Kr := (show Byt w v D.l from hr.sl).ext hxd
  refine Ph.rest 0 18 (by kernel_rfl) ?_
  refine LinL.step (s := (.val (.pointer (some ⟨g, 0, none⟩)))) [(0, none)] rfl (by kernel_rfl) (op_out 0 (.pointer (some ⟨g, 0, none⟩)) rfl (.inl rfl) rfl) ?_
  refine LinL.step (s := (.val (.pointer (some ⟨g, 0, none⟩)))) [(5, some 0)] rfl (by kernel_rfl) (op_runs rfl fun σ w' hx hg => ⟨_, runs_nil (ρ := σ.eval) (w := w') (.tmp 5) rfl hg.1, rfl⟩) ?_
  refine LinL.step (s := (.val (.pointer (some ⟨g, 1, none⟩)))) [(6, some 0)] rfl (by kernel_rfl) (op_runs rfl fun σ w' hx hg => ⟨_, runs_field (ρ := σ.eval) (w := w') Try.stD (.tmp 6) g 1 rfl hg.1 (by omega), rfl⟩) ?_
  refine LinL.step (s := (.val (.int .i64 (D.s : Nat)))) [(7, some 0)] rfl (by kernel_rfl) (op_runs rfl fun σ w' hx hg => ⟨_, runs_fload (ρ := σ.eval) (w := w') (.tmp 7) rfl hg.1 (agg_of (by kernel_rfl) _) (Hf.ext hx) rfl, rfl⟩) ?_
  refine LinL.step (s := (.val (.int .i64 n))) [(1, none)] rfl (by kernel_rfl) (op_out 1 (.int .i64 n) rfl (.inl rfl) rfl) ?_
  refine LinL.step (s := (.val (.pointer (some ⟨g, 0, none⟩)))) [(0, none)] rfl (by kernel_rfl) (op_out 0 (.pointer (some ⟨g, 0, none⟩)) rfl (.inl rfl) rfl) ?_
  refine LinL.step (s := (.val (.pointer (some ⟨g, 0, none⟩)))) [(10, some 0)] rfl (by kernel_rfl) (op_runs rfl fun σ w' hx hg => ⟨_, runs_nil (ρ := σ.eval) (w := w') (.tmp 10) rfl hg.1, rfl⟩) ?_
  refine LinL.step (s := (.val (.pointer (some ⟨g, 0, none⟩)))) [(11, some 0)] rfl (by kernel_rfl) (op_runs rfl fun σ w' hx hg => ⟨_, runs_field (ρ := σ.eval) (w := w') Try.stD (.tmp 11) g 0 rfl hg.1 (by omega), rfl⟩) ?_
  refine LinL.step (s := (.val (v))) [(12, some 0)] rfl (by kernel_rfl) (op_runs rfl fun σ w' hx hg => ⟨_, runs_fload (ρ := σ.eval) (w := w') (.tmp 12) rfl hg.1 (agg_of (by kernel_rfl) _) (Hf.ext hx) rfl, rfl⟩) ?_
  refine LinL.step (s := (.val (.int .i64 (D.l.length : Nat)))) [(13, some 0)] rfl (by kernel_rfl) (op_runs rfl fun σ w' hx hg => ⟨_, runs_lenb (ρ := σ.eval) (w := w') (.tmp 13) rfl hg.1 (Kr.ext hx), rfl⟩) ?_
  refine LinL.step (s := (.val (.pointer (some ⟨g, 0, none⟩)))) [(0, none)] rfl (by kernel_rfl) (op_out 0 (.pointer (some ⟨g, 0, none⟩)) rfl (.inl rfl) rfl) ?_
  refine LinL.step (s := (.val (.pointer (some ⟨g, 0, none⟩)))) [(15, some 0)] rfl (by kernel_rfl) (op_runs rfl fun σ w' hx hg => ⟨_, runs_nil (ρ := σ.eval) (w := w') (.tmp 15) rfl hg.1, rfl⟩) ?_
  refine LinL.step (s := (.val (.pointer (some ⟨g, 1, none⟩)))) [(16, some 0)] rfl (by kernel_rfl) (op_runs rfl fun σ w' hx hg => ⟨_, runs_field (ρ := σ.eval) (w := w') Try.stD (.tmp 16) g 1 rfl hg.1 (by omega), rfl⟩) ?_
  refine LinL.step (s := (.val (.int .i64 (D.s : Nat)))) [(17, some 0)] rfl (by kernel_rfl) (op_runs rfl fun σ w' hx hg => ⟨_, runs_fload (ρ := σ.eval) (w := w') (.tmp 17) rfl hg.1 (agg_of (by kernel_rfl) _) (Hf.ext hx) rfl, rfl⟩) ?_
  refine LinL.step (s := (.val (.int .i64 (D.l.length - D.s : Nat)))) [(14, some 4), (18, some 0)] rfl (by kernel_rfl) (op_runs rfl fun σ w' hx hg => ⟨_, runs_sub (ρ := σ.eval) (w := w') (.tmp 14) (.tmp 18) ((D.l.length - D.s : Nat)) (by omega) (by omega) rfl hg.1 hg.2.1, rfl⟩) ?_
  refine LinL.step (s := (.val (.int .i64 (bet n (D.l.length - D.s) : Nat)))) [(9, some 10), (19, some 0)] rfl (by kernel_rfl) (op_calls 38 #[(.tmp 9), (.tmp 19)] #[3, 3] (fun σ => #[.int .i64 n, .int .i64 (D.l.length - D.s : Nat)]) rfl rfl (fun _ _ => rfl) fun σ w' hx hg => ⟨by have h9 : σ.tmps.getD 9 undef = .int .i64 n := hg.1; have h19 : σ.tmps.getD 19 undef = .int .i64 (D.l.length - D.s : Nat) := hg.2.1; simp only [List.map_toArray, List.map_cons, List.map_nil, Act.eval, h9, h19], (between_any n (D.l.length - D.s) w').mono fun e w'' h => ⟨_, h.1, h.2 ▸ Ext.refl _, rfl⟩⟩) ?_
  refine LinL.step (s := (.val (.int .i64 (x : Nat)))) [(8, some 12), (20, some 0)] rfl (by kernel_rfl) (op_runs rfl fun σ w' hx hg => ⟨_, runs_add (ρ := σ.eval) (w := w') (.tmp 8) (.tmp 20) ((x : Nat)) (by omega) (by omega) rfl hg.1 hg.2.1, rfl⟩) ?_
  refine LinL.step (s := (.val (.int .i64 (x : Nat)))) [(21, some 0)] rfl (by kernel_rfl) (op_copy 21 0 (.val (.int .i64 (x : Nat))) rfl (.inr rfl) rfl) ?_
  intro wN hxN
  simp only [Fin', List.reverse_cons, List.reverse_nil, List.nil_append, List.cons_append, List.drop_zero, List.drop_succ_cons, List.take_succ_cons, List.take_zero]
  simp only [Act.put, List.setIfInBounds_toArray, List.set_cons_zero, List.set_cons_succ]
  clear hx
  have hf1 := hf.ext (hxd.trans hxN)
  have hr1 := hr.ext (hxd.trans hxN)
  have hX := hxd.trans hxN
  go_wp2_with (first
    | (refine w_field Try.stD _ _ _ rfl rfl rfl (by omega) ?_)
    | (refine w_fload _ rfl rfl rfl hf1 rfl (agg_of (by kernel_rfl)) ?_)
    | (refine w_rto Try.elB _ _ x rfl rfl rfl rfl hr1 (by rw [u8s_length]; exact hxl) ?_; intro v2 hr2 _)
    | (refine w_fstore (u := v2) _ _ rfl rfl rfl rfl rfl hf1 (by simp) hr2.sl.oneCell hr2.sl.one' (by kernel_rfl) ?_; intro w2 hm2 hf2; have hr3 := hr2.mod hm2 fun k hk e => hk.2 e)
    | (refine w_fstore (u := .int .i64 (x : Nat)) _ _ rfl rfl rfl rfl rfl hf2 (by simp) rfl rfl (by kernel_rfl) ?_; intro w3 hm3 hf3; have hr4 := hr3.mod hm3 fun k hk e => hk.2 e))
  go_end0
  have hm : Mod F w w3 := ((hX.mod F).trans hm2 fun k _ e => e ▸ hg).trans hm3 fun k _ e => e ▸ hg
  have A1 : Fs w3 g [v2, .int .i64 ((D.s + bet n (D.l.length - D.s) : Nat) : Int), .int .i64 D.lim] := by rw [← Hx.out]; exact hf3
  have A2 : Row (fun k => F k ∧ k ≠ g) w3 5 v2 (u8s (D.l.take (D.s + bet n (D.l.length - D.s)))) := by rw [← Hx.out, ← u8s_take]; exact hr4
  exact Keep.intro ⟨rfl, hm, Dsk.made (D := D.crash n) hg A1 A2 hok.out fun k hk => Nat.lt_of_lt_of_le (hb k hk) hm.size⟩

set_option maxRecDepth 100000 in
set_option maxHeartbeats 1600000 in
theorem Cut_any {F : Nat → Prop} {p : Value} {D : DSt} {w : World} (n : Int) (h : Dsk F w p D) : Calls Try.prog 27 #[p, .int .i64 n] w fun e w' => e = .returned (.tuple #[]) ∧ Mod F w w' ∧ Dsk F w' p (D.cut n) := by
  obtain ⟨⟨g, v, rfl, hg, hf, hr⟩, ho, hb⟩ := h
  refine calls_keep ?_
  have hok := hide_ (ho.cut n)
  obtain ⟨x, hx⟩ : ∃ x, x = bet n D.l.length := ⟨_, rfl⟩
  have hxl : x ≤ D.l.length := by rw [hx]; exact bet_le _ _
  have Hx := hide_ hx
  have Hmin := hide_ (show ((min D.s x : Nat) : Int) = min (D.s : Int) (x : Int) from by omega)
  clear hx
  go_enter Try.func27, Try.ntmps27
  go_wp2_with (first
    | (refine w_field Try.stD _ _ _ rfl rfl rfl (by omega) ?_)
    | (refine w_fload _ rfl rfl rfl hf rfl (agg_of (by kernel_rfl)) ?_)
    | (refine b_len _ rfl rfl (v := v) rfl hr.sl ?_)
    | (go_at_call 38; refine (between_any n D.l.length _).mono ?_; rintro e w' ⟨rfl, rfl⟩; rw [← Hx.out])
    | (refine w_rto Try.elB _ _ x rfl rfl rfl rfl hr (by rw [u8s_length]; exact hxl) ?_; intro v2 hr2 _)
    | (refine w_fstore (u := v2) _ _ rfl rfl rfl rfl rfl hf (by simp) hr2.sl.oneCell hr2.sl.one' (by kernel_rfl) ?_; intro w2 hm2 hf2; replace hf := hf2; have hr3 := hr2.mod hm2 fun k hk e => hk.2 e)
    | (refine w_min _ _ (min D.s x : Nat) Hmin.out rfl rfl rfl rfl ?_)
    | (refine w_fstore (u := .int .i64 (min D.s x : Nat)) _ _ rfl rfl rfl rfl rfl hf (by simp) rfl rfl (by kernel_rfl) ?_; intro w3 hm3 hf3; have hr4 := hr3.mod hm3 fun k hk e => hk.2 e))
  go_end0
  have hm : Mod F w w3 := (hm2.mono fun k _ e => e ▸ hg).trans hm3 fun k _ e => e ▸ hg
  have A1 : Fs w3 g [v2, .int .i64 ((min D.s (bet n D.l.length) : Nat) : Int), .int .i64 D.lim] := by rw [← Hx.out]; exact hf3
  have A2 : Row (fun k => F k ∧ k ≠ g) w3 5 v2 (u8s (D.l.take (bet n D.l.length))) := by rw [← Hx.out, ← u8s_take]; exact hr4
  exact Keep.intro ⟨rfl, hm, Dsk.made (D := D.cut n) hg A1 A2 hok.out fun k hk => Nat.lt_of_lt_of_le (hb k hk) hm.size⟩
end Go.Proofs.Ytfhecifgpjbeiaa
