/- The contracts of stake.Most, Some and Few. Condition: stakes that can be. -/
import Derived.Test.YthggokfnmpplmaaStkSum
namespace Go.Proofs.Ythggokfnmpplmaa
open Go.RowKit

/-- What stakes and a set are, so that they can be asked. -/
structure Asked (W : World) (v u : Value) (t who : List Int) : Prop where
  ok : StOk t
  st : Ints W v t
  set : Ints W u who
  i64 : I64 who
  len : who.length * 8 ≤ 140737488351232
theorem Asked.ext {w w' : World} {v u : Value} {t who : List Int} (h : Asked w v u t who) (he : Ext w w') : Asked w' v u t who := ⟨h.ok, h.st.ext he, h.set.ext he, h.i64, h.len⟩

theorem Sum_of {W : World} {v u : Value} {t who : List Int} (h : Asked W v u t who) : Calls Try.prog 14 #[v, u] W fun e w' => e = .returned (.int .i64 (sumS t who)) ∧ Ext W w' :=
  Sum_any v u t who W h.ok h.st h.set h.i64 h.len

set_option maxRecDepth 100000 in
theorem Most_of {W : World} {v u : Value} {t who : List Int} (h : Asked W v u t who) : Calls Try.prog 15 #[v, u] W fun e w' => e = .returned (.bool (most t who)) ∧ Ext W w' := by
  refine calls_keep ?_
  obtain ⟨s, hs⟩ : ∃ s, s = sumS t who := ⟨_, rfl⟩
  obtain ⟨z, hz⟩ : ∃ z, z = totS t := ⟨_, rfl⟩
  have hsb := sumS_bd h.ok who
  have hzb := totS_bd h.ok
  rw [← hs] at hsb
  rw [← hz] at hzb
  have hm := hide_ (show most t who = decide (2 * z < 3 * s) from by rw [hs, hz]; rfl)
  have Hs := hide_ hs
  have Hz := hide_ hz
  clear hs hz
  go_enter Try.func15, Try.ntmps15
  go_wp2_with (first
    | (go_at_call 14; refine (Sum_of h).mono ?_; rintro e w1 ⟨rfl, hX1⟩; rw [← Hs.out])
    | (go_at_call 10; refine (Total_any v t _ h.ok (h.st.ext hX1)).mono ?_; rintro e w2 ⟨rfl, rfl⟩; rw [← Hz.out]))
  go_ret
  exact Keep.intro ⟨by rw [hm.out]; rfl, hX1⟩

set_option maxRecDepth 100000 in
theorem Some_of {W : World} {v u : Value} {t who : List Int} (h : Asked W v u t who) : Calls Try.prog 17 #[v, u] W fun e w' => e = .returned (.bool (some3 t who)) ∧ Ext W w' := by
  refine calls_keep ?_
  obtain ⟨s, hs⟩ : ∃ s, s = sumS t who := ⟨_, rfl⟩
  obtain ⟨z, hz⟩ : ∃ z, z = totS t := ⟨_, rfl⟩
  have hsb := sumS_bd h.ok who
  have hzb := totS_bd h.ok
  rw [← hs] at hsb
  rw [← hz] at hzb
  have hm := hide_ (show some3 t who = decide (z < 3 * s) from by rw [hs, hz]; rfl)
  have Hs := hide_ hs
  have Hz := hide_ hz
  clear hs hz
  go_enter Try.func17, Try.ntmps17
  go_wp2_with (first
    | (go_at_call 14; refine (Sum_of h).mono ?_; rintro e w1 ⟨rfl, hX1⟩; rw [← Hs.out])
    | (go_at_call 10; refine (Total_any v t _ h.ok (h.st.ext hX1)).mono ?_; rintro e w2 ⟨rfl, rfl⟩; rw [← Hz.out]))
  go_ret
  exact Keep.intro ⟨by rw [hm.out]; rfl, hX1⟩

set_option maxRecDepth 100000 in
theorem Few_of {W : World} {v u : Value} {t who : List Int} (h : Asked W v u t who) : Calls Try.prog 19 #[v, u] W fun e w' => e = .returned (.bool (few t who)) ∧ Ext W w' := by
  refine calls_keep ?_
  obtain ⟨s, hs⟩ : ∃ s, s = sumS t who := ⟨_, rfl⟩
  obtain ⟨z, hz⟩ : ∃ z, z = totS t := ⟨_, rfl⟩
  have hsb := sumS_bd h.ok who
  have hzb := totS_bd h.ok
  rw [← hs] at hsb
  rw [← hz] at hzb
  have hm := hide_ (show few t who = decide (3 * s < z) from by rw [hs, hz]; rfl)
  have Hs := hide_ hs
  have Hz := hide_ hz
  clear hs hz
  go_enter Try.func19, Try.ntmps19
  go_wp2_with (first
    | (go_at_call 14; refine (Sum_of h).mono ?_; rintro e w1 ⟨rfl, hX1⟩; rw [← Hs.out])
    | (go_at_call 10; refine (Total_any v t _ h.ok (h.st.ext hX1)).mono ?_; rintro e w2 ⟨rfl, rfl⟩; rw [← Hz.out]))
  go_ret
  exact Keep.intro ⟨by rw [hm.out]; rfl, hX1⟩
end Go.Proofs.Ythggokfnmpplmaa
