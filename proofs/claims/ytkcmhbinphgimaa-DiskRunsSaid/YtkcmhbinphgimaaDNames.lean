/- The statement DiskNames: the chapter's example; the error's number; the room of disks of too little and of too much. No condition. -/
import Derived.Test.YtkcmhbinphgimaaDsk
import Derived.Test.YtkcmhbinphgimaaLitStep
import Derived.Test.YtkcmhbinphgimaaLift
namespace Go.Proofs.Ytkcmhbinphgimaa
open Go.RowKit Go.ChangeShapes Go.WideShapes Go.ChangeAt

theorem Out.of_new {W w w' : World} {p : Value} {D : DSt} (he : Ext W w) (hx : Ext w w') (h : Dsk (fun k => w.heap.size ≤ k ∧ k < w'.heap.size) w' p D) : Out W (fun k => w.heap.size ≤ k ∧ k < w'.heap.size) w' :=
  ⟨he.trans hx, fun k hk => Nat.le_trans he.size hk.1⟩
theorem Dsk.ne_nil {F : Nat → Prop} {w : World} {p : Value} {D : DSt} (h : Dsk F w p D) : ∃ a, p = .pointer (some a) := by
  obtain ⟨⟨g, v, rfl, _⟩, _, _⟩ := h; exact ⟨_, rfl⟩
theorem Mod.upd {F : Nat → Prop} {w w' : World} (h : Mod F w w') : Upd F F w w' := ⟨h, fun _ h => .inl h⟩

set_option maxRecDepth 100000 in
set_option maxHeartbeats 800000 in
theorem alive_any (W : World) : Calls Try.prog 9 #[] W fun e w' => e = .returned (.bool true) ∧ Ext W w' := by
  refine calls_keep ?_
  have hO0 := Ext.refl W
  have e1 := hide_ (show DSt.err (DSt.new 9) [97, 98] = 0 from by decide)
  have e2 := hide_ (show (((((DSt.new 9).app [97, 98]).sync).app [99, 100]).crash 1).l = [97, 98, 99] from by decide)
  have e3 := hide_ (show (((((DSt.new 9).app [97, 98]).sync).app [99, 100]).crash 1).s = 3 from by decide)
  have e4 := hide_ (show (((((DSt.new 9).app [97, 98]).sync).app [99, 100]).crash 1).room = 6 from by decide)
  have e5 := hide_ (show strN [97, 98, 99] = ⟨#[97, 98, 99]⟩ from by decide)
  go_enter Try.func9, Try.ntmps9
  go_wp2_with (first
    | (go_at_call 10; refine (New_any 9 _).mono ?_; rintro e w1 ⟨p, rfl, hx1, hd⟩; have hO := Out.of_new hO0 hx1 hd; obtain ⟨A, rfl⟩ := hd.ne_nil)
    | ((try refine w_yes _ _ _ rfl rfl rfl ?_); refine w_blit [97, 98] rfl rfl rfl rfl (by omega) ?_; intro gl wl hgl hxl hL)
    | ((try refine w_yes _ _ _ rfl rfl rfl ?_); refine w_blit [99, 100] rfl rfl rfl rfl (by omega) ?_; intro gl wl hgl hxl hL)
    | ((try refine w_yes _ _ _ rfl rfl rfl ?_); refine w_bconv _ rfl rfl rfl hgl hxl hL (by simp) ?_; intro vb wb hxb hb hbk; replace hd := hd.ext hxb; replace hO := hO.extend hxb; clear hgl hxl hL)
    | (go_at_call 11; refine (Append_any hd hb).mono ?_; rintro e wa ⟨F', rfl, hu, hd'⟩; rw [e1.out]; replace hO := hO.upd hu; replace hd := hd'; clear hb hbk e1)
    | (go_at_call 11; refine (Append_any hd hb).mono ?_; rintro e wa ⟨F', rfl, hu, hd'⟩; replace hO := hO.upd hu; replace hd := hd'; clear hb hbk)
    | (go_at_call 15; refine (Sync_any hd).mono ?_; rintro e ws ⟨rfl, hm, hd'⟩; replace hO := hO.upd hm.upd; replace hd := hd')
    | (go_at_call 17; refine (Crash_any 1 hd).mono ?_; rintro e wc ⟨rfl, hm, hd'⟩; replace hO := hO.upd hm.upd; replace hd := hd')
    | (go_at_call 22; refine (Bytes_any hd).mono ?_; rintro e wx ⟨vx, rfl, hxx, hrx⟩; replace hO := hO.extend hxx; replace hd := hd.ext hxx; rw [e2.out] at hrx)
    | (refine w_str _ rfl rfl rfl hrx.sl ?_; rw [e5.out])
    | (go_at_call 23; refine (Synced_any hd).mono ?_; rintro e wy ⟨rfl, rfl⟩; rw [e3.out])
    | (go_at_call 12; refine (Room_any hd).mono ?_; rintro e wz ⟨rfl, hxz⟩; replace hO := hO.extend hxz; rw [e4.out]))
  go_ret
  exact Keep.intro ⟨rfl, hO.ext⟩

set_option maxRecDepth 100000 in
set_option maxHeartbeats 800000 in
theorem diskNames_any (W : World) : Calls Try.prog 3 #[] W fun e w' => e = .returned (.bool true) ∧ Ext W w' := by
  refine calls_keep ?_
  have e1 := hide_ (show DSt.err (DSt.new (-1)) [97] = 41 from by decide)
  have e2 := hide_ (show (DSt.new 99999).room = 65536 from by decide)
  go_enter Try.func3, Try.ntmps3
  go_wp2_with (first
    | (go_at_call 9; refine (alive_any _).mono ?_; rintro e w1 ⟨rfl, hX⟩)
    | (go_at_call 10; ((with_reducible refine (New_any _ _).mono ?_); rintro e w2 ⟨p, rfl, hx1, hd⟩; have hO := Out.of_new hX hx1 hd; replace hX := hO.ext))
    | ((try refine w_yes _ _ _ rfl rfl rfl ?_); refine w_blit [97] rfl rfl rfl rfl (by omega) ?_; intro gl wl hgl hxl hL)
    | ((try refine w_yes _ _ _ rfl rfl rfl ?_); refine w_bconv _ rfl rfl rfl hgl hxl hL (by simp) ?_; intro vb wb hxb hb hbk; replace hd := hd.ext hxb; replace hO := hO.extend hxb; clear hgl hxl hL)
    | (go_at_call 11; refine (Append_any hd hb).mono ?_; rintro e wa ⟨F', rfl, hu, hd'⟩; rw [e1.out]; replace hO := hO.upd hu; replace hX := hO.ext; clear hb hbk hd hO e1)
    | (go_at_call 12; refine (Room_any hd).mono ?_; rintro e wz ⟨rfl, hxz⟩; replace hO := hO.extend hxz; rw [e2.out]))
  go_ret
  exact Keep.intro ⟨rfl, hO.ext⟩

set_option maxRecDepth 100000 in
theorem diskNames_lifted (os : Os) (started : os.Started) (H : Type) (enc : TypeId × Value → H) :
    ReturnsInHanded {} Try.checked os 3 .any (Rows.diskNamesSpec.pre6 enc Try.prog Try.f3 Rows.diskNamesRow.domain false) (Rows.diskNamesSpec.post enc Try.prog Try.f3 false true false false) := by
  refine law_lifted (s := Rows.diskNamesSpec) (conds := Rows.diskNamesRow.domain) Try.func3 (by kernel_rfl) rfl (fun H ds h => by
      rw [show Try.f3.params.size = 0 from rfl] at h
      obtain rfl : ds = [] := List.eq_nil_of_length_eq_zero h
      rfl) rfl rfl (by decide +kernel) os started H enc
    (ChangeSpec.witness6 (enc := enc) (C := Try.checked) false ⟨#[], #[], []⟩ 8 (by kernel_rfl) (by kernel_rfl) (by kernel_rfl) (by kernel_rfl)) ?_
  intro W base args ds p hval hA hsz _
  obtain rfl : args = #[] := by cases args with | mk l => cases l with | nil => rfl | cons v vs => cases ds <;> exact hA.elim
  exact diskNames_any W

theorem diskNames_holds : Rows.DiskNamesSaid :=
  OpenClaim.holds_of_wide 3 Try.f3 rfl rfl rfl rfl rfl rfl rfl ⟨rfl, rfl, rfl, rfl, rfl⟩ rfl rfl rfl rfl rfl (by kernel_rfl) Try.func3 (by kernel_rfl)
    (of_decide_eq_true (by kernel_rfl)) (by unfold Func.isWrapper; first | (rw [if_pos (by decide +kernel)]; kernel_rfl) | (rw [if_neg (by decide +kernel)]; exact ⟨rfl, rfl⟩))
    (fun os started H enc _ => diskNames_lifted os started H enc)
#print axioms diskNames_holds

end Go.Proofs.Ytkcmhbinphgimaa
