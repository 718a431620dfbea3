/- A bag of texts in which nothing is. -/
import Derived.Test.YtkkbpmkeemfppaaNtB
namespace Go.Proofs.Ytkkbpmkeemfppaa
open Go.RowKit

theorem Try.stBagS : St Try.prog 61 2 [.chan none, .slice none 0 0] := St.of (by kernel_rfl) (by kernel_rfl) rfl
theorem Try.infoPS : (Try.prog.info? 62).map (fun i => (i.zero, i.size, i.bytes)) = some (some (.pointer none), 1, 8) := by kernel_rfl
theorem Try.elPS : El Try.prog 59 62 (.pointer none) 8 := by
  obtain ⟨i0, hi, hz0, hz1, hz2⟩ := info_parts Try.infoPS
  exact ⟨Try.underlying59, ⟨i0, hi, hz0, hz1, hz2⟩, rfl, by omega⟩
set_option maxRecDepth 100000 in
set_option maxHeartbeats 3200000 in
theorem BNewS_any {w : World} : Calls Try.prog 10 #[] w fun e w' => ∃ p, e = .returned (.pointer (some ⟨p, 0, none⟩)) ∧ Ext w w' ∧ ∃ c, Fs w' p [.chan (some c), .slice none 0 0] ∧ Ch 4000 w' c [] := by
  refine calls_keep ?_
  go_enter Try.func10, Try.ntmps10
  go_wp2_with ((first
    | (refine w_mkchan _ 4000 Try.underlying58 (by kernel_rfl) rfl rfl rfl (by omega) ?_; intro c w1 hc hX hch)
    | ((with_reducible refine at_sbuild ?_); refine w_sbuild Try.stBagS [.chan (some c), .slice none 0 0] rfl rfl rfl (by intro p hp; simp at hp; subst hp; exact ⟨by decide, rfl⟩) ?_)
    | ((with_reducible refine at_box ?_); refine w_box _ [.chan (some c), .slice none 0 0] rfl rfl rfl rfl ?_; intro p w2 hp hx f1; have hc2 := hide_ (hch.ext hx); replace hX := hX.trans hx; clear hp hx hch)
    | fail) <;> (try simp only [Act.put, List.setIfInBounds_toArray, List.set_cons_zero, List.set_cons_succ]))
  go_ret
  exact Keep.intro ⟨p, rfl, hX, c, f1, hc2.out⟩
theorem recvS_none {w : World} {p c : Nat} {v : Value} (f0 : Fs w p [.chan (some c), v]) (h0 : Ch 4000 w c []) :
    Calls Try.prog 33 #[.pointer (some ⟨p, 0, none⟩)] w fun e w' => e = .returned (.tuple #[.pointer none, .bool false]) ∧ Ext w w' := by
  obtain ⟨s, r, hb⟩ := h0
  refine (recv_noneS f0 hb).mono ?_
  rintro e w' ⟨rfl, rfl⟩
  exact ⟨rfl, Ext.refl _⟩
set_option maxRecDepth 100000 in
set_option maxHeartbeats 3200000 in
theorem reachS_none {w : World} {p c : Nat} (f0 : Fs w p [.chan (some c), .slice none 0 0]) (h0 : Ch 4000 w c []) :
    Calls Try.prog 28 #[.pointer (some ⟨p, 0, none⟩), .int .i64 0] w fun e w' => e = .returned (.bool false) ∧ Ext w w' := by
  refine calls_keep ?_
  have f1 := hide_ f0
  have hch := hide_ h0
  clear f0 h0
  go_enter Try.func28, Try.ntmps28
  go_wp2
  go_loopw [5] (fun _ wr => Ext w wr) (fun _ _ => 0)
  case atStart => exact Ext.refl _
  case round =>
    have hX : Ext w wr := hrel
    clear hrel
    go_wp2_with ((first
      | (go_at_call 33; refine ((recvS_none (f1.out.ext hX) (hch.out.ext hX))).mono ?_; rintro e w4 ⟨rfl, hx⟩; replace hX := hX.trans hx; clear hx)
      | ((with_reducible refine at_field ?_); (try refine w_yes _ _ _ rfl rfl rfl ?_); refine w_field Try.stBagS _ _ _ rfl rfl rfl (by omega) ?_)
      | ((with_reducible refine at_load ?_); refine w_fload _ rfl rfl rfl (f1.out.ext hX) rfl (agg_of (by kernel_rfl)) ?_)
      | ((with_reducible refine at_bi ?_); refine w_len Try.elPS _ rfl rfl rfl (Sl.nil _) ?_)
      | fail) <;> (try simp only [Act.put, List.setIfInBounds_toArray, List.set_cons_zero, List.set_cons_succ]))
    go_ret
    exact Keep.intro ⟨rfl, hX⟩
set_option maxRecDepth 100000 in
set_option maxHeartbeats 3200000 in
theorem AtS_none {w : World} {p c : Nat} (f0 : Fs w p [.chan (some c), .slice none 0 0]) (h0 : Ch 4000 w c []) :
    Calls Try.prog 11 #[.pointer (some ⟨p, 0, none⟩), .int .i64 0] w fun e w' => e = .returned (.tuple #[.string { data := #[] }, .bool false]) ∧ Ext w w' := by
  refine calls_keep ?_
  have f1 := hide_ f0
  have hch := hide_ h0
  have hX := Ext.refl w
  clear f0 h0
  go_enter Try.func11, Try.ntmps11
  go_wp2_with (first
    | (go_at_call 28; refine (reachS_none (f1.out.ext hX) (hch.out.ext hX)).mono ?_; rintro e w4 ⟨rfl, hx⟩; replace hX := hX.trans hx; clear hx)
    | fail)
  go_ret2
  exact Keep.intro ⟨rfl, hX⟩
end Go.Proofs.Ytkkbpmkeemfppaa
