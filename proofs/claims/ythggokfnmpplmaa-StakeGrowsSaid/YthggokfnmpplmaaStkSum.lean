/- The contract of stake.Sum; so of Most, Some and Few. Condition: stakes that can be. -/
import Derived.Test.YthggokfnmpplmaaStk
namespace Go.Proofs.Ythggokfnmpplmaa
open Go.RowKit Go.Maps

def I64 (l : List Int) : Prop := ∀ x ∈ l, -9223372036854775808 ≤ x ∧ x ≤ 9223372036854775807

/-- What the map holds: those below n that are in l. -/
def Holds (D : DataW Unit) (n : Nat) (l : List Int) : Prop := IsMap D ∧ ∀ j, j < n → Maps.has D (.int .i64 (j : Int)) = inn l j
theorem key_ne {a b : Nat} (h : a ≠ b) : (Lit.int .i64 (a : Int)) ≠ Lit.int .i64 (b : Int) := fun e => by injection e with _ e; omega
theorem holds_out {D : DataW Unit} {n : Nat} {l : List Int} (h : Holds D n l) {x : Int} (hx : x < 0 ∨ (n : Int) ≤ x) : Holds D n (l ++ [x]) :=
  ⟨h.1, fun j hj => by
    rw [h.2 j hj, inn_snoc]
    have : (x == (j : Int)) = false := by rw [beq_eq_false_iff_ne]; omega
    rw [this, Bool.or_false]⟩
theorem holds_old {D : DataW Unit} {n : Nat} {l : List Int} (h : Holds D n l) {x : Nat} (ho : inn l x = true) : Holds D n (l ++ [(x : Int)]) :=
  ⟨h.1, fun j hj => by
    rw [h.2 j hj, inn_snoc, cast_beq]
    by_cases he : x = j
    · subst he; rw [ho]; rfl
    · have : (x == j) = false := by simpa using he
      rw [this, Bool.or_false]⟩
theorem holds_new {D : DataW Unit} {n : Nat} {l : List Int} (h : Holds D n l) (x : Nat) (d : DataW Unit) (hk : WideAt.IsKeyLit (Lit.int .i64 (x : Int))) : Holds (D.put (.int .i64 (x : Int)) d) n (l ++ [(x : Int)]) :=
  ⟨h.1.put _ _, fun j hj => by
    rw [inn_snoc, cast_beq]
    by_cases he : x = j
    · subst he; rw [Maps.has_put_same h.1 hk]; simp
    · have : (x == j) = false := by simpa using he
      rw [this, Bool.or_false, Maps.has_put_other (key_ne (Ne.symm he)), h.2 j hj]⟩

theorem take_snoc (l : List Int) {k : Nat} (hk : k < l.length) : l.take (k + 1) = l.take k ++ [l[k]] := List.take_succ_eq_append_getElem hk

set_option maxRecDepth 100000 in
set_option maxHeartbeats 1600000 in
theorem Sum_any (v u : Value) (t who : List Int) (W : World) (ht : StOk t) (h : Ints W v t) (hu : Ints W u who) (hI : I64 who) (hlen : who.length * 8 ≤ 140737488351232) :
    Calls Try.prog 14 #[v, u] W fun e w' => e = .returned (.int .i64 (sumS t who)) ∧ Ext W w' := by
  refine calls_keep ?_
  have hmm := @run_makeMap Try.prog
  have Ht := hide_ ht
  have HI := hide_ hI
  have hl7 := ht.2.1
  clear ht hI
  go_enter Try.func14, Try.ntmps14
  go_wp2_with (first
    | (refine i_len (.tmp 12) rfl rfl (v := u) rfl (hu.ext ((Ext.refl _).alloc _)) ?_))
  go_loopw [5, 14] (fun s i wr => ∃ (k : Nat) (D : DataW Unit), i = .int .i64 k ∧ k ≤ who.length ∧ s = .int .i64 (ws t (inn (who.take k)) t.length) ∧
      wr.ownsMap Try.prog 3 unitElem W.heap.size k D ∧ Hid (Holds D t.length (who.take k)) ∧ Ext W wr ∧ W.heap.size < wr.heap.size)
    (fun _ i _ => who.length - (intOf i).toNat)
  case atStart => exact ⟨0, .map [], rfl, Nat.zero_le _, by rw [List.take_zero, ws_congr (q := fun _ => false) _ (fun i _ => inn_nil i)]; congr 1; clear Ht hu h; induction t.length with | zero => rfl | succ n ih => rw [ws, ← ih]; simp, World.ownsMap_made _ _ _ _, ⟨isMap_empty, fun j _ => by simp [Maps.has, inn]⟩, (Ext.refl _).alloc _, by simp⟩
  case round =>
    obtain ⟨k, D, rfl, hk, rfl, hown, hD, hX, hsz⟩ := hrel
    by_cases hlt : k < who.length
    · have hxb := HI.out who[k] (List.getElem_mem hlt)
      have hkey : keyOf Try.prog 3 (.int .i64 who[k]) = some (.int .i64 who[k]) := keyOf_int_mk Try.underlying3 (by simp [Lit.wf, IntKind.min, IntKind.max, IntKind.signed, IntKind.bits]; omega)
      have Hk := hide_ hkey
      have Htk := hide_ (take_snoc who hlt)
      clear hkey hxb
      obtain ⟨s, hs⟩ : ∃ s, s = ws t (inn (who.take k)) t.length := ⟨_, rfl⟩
      have hsb := ws_bd Ht.out (inn (who.take k)) (Nat.le_refl _)
      rw [← hs] at hsb ⊢
      have Hs := hide_ hs
      clear hs
      by_cases hneg : who[k] < 0
      · have t2 : (decide (who[k] < 0)) = true := by simpa using hneg
        have Ho := hide_ (show who[k] < 0 ∨ (t.length : Int) ≤ who[k] from .inl hneg)
        clear hneg
        go_wp2_with (first
          | (refine i_idx (.tmp 12) (.tmp 14) k rfl rfl (v := u) rfl (hu.ext hX) rfl hlt ?_; intro ad had))
        go_roundw
        case rel => exact ⟨k + 1, D, by go_num, by omega, by rw [sum_out t who hlt Ho.out, Hs.out], hown.mono (Nat.le_succ _), by have := holds_out hD.out Ho.out; rwa [← Htk.out] at this, hX, hsz⟩
        case measure => simp [intOf]; omega
      · have t2 : (decide (who[k] < 0)) = false := by simpa using hneg
        by_cases hbig : (t.length : Int) ≤ who[k]
        · have t3 : (decide ((t.length : Int) ≤ who[k])) = true := by simpa using hbig
          have Ho := hide_ (show who[k] < 0 ∨ (t.length : Int) ≤ who[k] from .inr hbig)
          clear hneg hbig
          go_wp2_with (first
            | (refine i_idx (.tmp 12) (.tmp 14) k rfl rfl (v := u) rfl (hu.ext hX) rfl hlt ?_; intro ad had)
            | (refine w_yes _ _ _ rfl rfl rfl ?_; refine i_len (.tmp 22) rfl rfl (v := v) rfl (h.ext hX) ?_))
          go_roundw
          case rel => exact ⟨k + 1, D, by go_num, by omega, by rw [sum_out t who hlt Ho.out, Hs.out], hown.mono (Nat.le_succ _), by have := holds_out hD.out Ho.out; rwa [← Htk.out] at this, hX, hsz⟩
          case measure => simp [intOf]; omega
        · have t3 : (decide ((t.length : Int) ≤ who[k])) = false := by simpa using hbig
          obtain ⟨j, hj⟩ : ∃ j : Nat, who[k] = (j : Int) := ⟨who[k].toNat, by omega⟩
          have hjt : j < t.length := by omega
          have Hj := hide_ hj
          have hh := hD.out.2 j hjt
          rw [← hj] at hh
          clear hneg hbig hj
          have hX1 : ∀ o, Ext W (wr.alloc o) := fun o => hX.alloc o
          cases ho : inn (who.take k) j
          · rw [ho] at hh
            have Hn := hide_ ho
            have hx := Ht.out.at hjt
            clear ho
            go_wp2_with (first
              | (refine i_idx (.tmp 12) (.tmp 14) k rfl rfl (v := u) rfl (hu.ext hX) rfl hlt ?_; intro ad had)
              | (refine w_yes _ _ _ rfl rfl rfl ?_; refine i_len (.tmp 22) rfl rfl (v := v) rfl (h.ext hX) ?_)
              | (at_lookup; refine wpList_lookup_own_unit _ rfl _ _ 32 rfl 3 33 Try.keyI Try.underlying32 (Try.zeroU _) W.heap.size k D rfl hown _ _ rfl Hk.out ?_)
              | (at_mapUpdate; refine wpList_mapUpdate_own _ rfl _ _ _ 32 rfl 3 33 Try.keyI Try.underlying32 (unitElem (H := Unit)) W.heap.size k D rfl (hown.alloc _) (by unfold maxLen; omega) _ _ _ rfl rfl Hk.out _ [] unitElem_mk ?_; intro w1 hown1 hgrow1; have hX2 : Ext W w1 := Below.grown (hX.alloc _) hgrow1 (by simp; omega) (fun j hj => by cases hj; exact Nat.le_refl _))
              | (refine i_idx (.tmp 37) (.tmp 38) j rfl rfl (v := v) rfl (h.ext hX2) (congrArg (Value.int .i64) Hj.out) hjt ?_; intro ad had))
            go_roundw
            case rel =>
              have hs1 := hgrow1.size
              simp at hs1
              refine ⟨k + 1, _, by go_num, by omega, by rw [sum_new t who hlt j Hj.out hjt Hn.out, ← Hs.out], hown1, ?_, hX2, by omega⟩
              have := holds_new hD.out j (.agg []) (by trivial)
              rw [← Hj.out, ← Htk.out] at this
              exact this
            case measure => simp [intOf]; omega
          · rw [ho] at hh
            have Hn := hide_ ho
            clear ho
            go_wp2_with (first
              | (refine i_idx (.tmp 12) (.tmp 14) k rfl rfl (v := u) rfl (hu.ext hX) rfl hlt ?_; intro ad had)
              | (refine w_yes _ _ _ rfl rfl rfl ?_; refine i_len (.tmp 22) rfl rfl (v := v) rfl (h.ext hX) ?_)
              | (at_lookup; refine wpList_lookup_own_unit _ rfl _ _ 32 rfl 3 33 Try.keyI Try.underlying32 (Try.zeroU _) W.heap.size k D rfl hown _ _ rfl Hk.out ?_))
            go_roundw
            case rel =>
              refine ⟨k + 1, D, by go_num, by omega, by rw [sum_old t who hlt j Hj.out Hn.out, Hs.out], (hown.alloc _).mono (Nat.le_succ _), ?_, hX.alloc _, by simp; omega⟩
              have := holds_old hD.out Hn.out
              rw [← Hj.out, ← Htk.out] at this
              exact this
            case measure => simp [intOf]; omega
    · obtain rfl : k = who.length := by omega
      rw [List.take_length]
      go_wp2
      go_ret
      exact Keep.intro ⟨rfl, hX⟩
end Go.Proofs.Ythggokfnmpplmaa
