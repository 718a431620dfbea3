/- The contract of journal.Bytes. -/
import Derived.Test.YtfhecifgpjbeiaaJrn0
import Derived.Test.YtfhecifgpjbeiaaText
namespace Go.Proofs.Ytfhecifgpjbeiaa
open Go.RowKit

def jB (r : RecD) : List Nat := if r.Ok then r.bs else []
def jErr (r : RecD) : Nat := if r.Ok then 0 else 51
theorem RecR.made {w w' : World} {r : RecD} {u : Value} (hu : Byt w u r.t) (h : r.Raw) (hx : Ext w w') : RecR w' [.int .i64 r.k, .int .i64 r.i, .int .i64 r.v, .int .i64 r.x, u] r := ⟨⟨u, rfl, hu.ext hx⟩, h⟩
theorem i64s_cells (l : List Int) : ∀ u ∈ i64s l, u.cells = #[u] := by
  intro u hu; simp only [i64s, List.mem_map] at hu; obtain ⟨n, _, rfl⟩ := hu; rfl
theorem RecD.nuOk {r : RecD} (h : r.Ok) : NuOk r.nums := ⟨by simp [RecD.nums], fun x hx => (r.bound h x hx).1⟩
theorem RecD.i64 {r : RecD} (h : r.Ok) : I64s r.nums := fun x hx => by have := r.bound h x hx; omega
theorem Nums_ok {w : World} {v : Value} {r : RecD} (h : r.Ok) (hv : Ints w v r.nums) : Calls Try.prog 31 #[v] w fun e w' => ∃ v', e = .returned (.tuple #[v', .int .i64 0]) ∧ OwnB w.heap.size w' v' (nuL r.nums) ∧ Ext w w' := by
  refine (Nums_any v r.nums w (r.i64 h) hv).mono ?_
  rintro e w' ⟨v', rfl, h1, h2⟩
  exact ⟨v', by rw [nuErr, if_pos (r.nuOk h)]; rfl, by rw [nuB, if_pos (r.nuOk h)] at h1; exact h1, h2⟩
theorem Text_ok {w : World} {v : Value} {l : List Nat} (h : l.length ≤ 4096) (hv : Byt w v l) : Calls Try.prog 32 #[v] w fun e w' => ∃ v', e = .returned (.tuple #[v', .int .i64 0]) ∧ OwnB w.heap.size w' v' (txL l) ∧ Ext w w' := by
  refine (Text_any v l w hv).mono ?_
  rintro e w' ⟨v', rfl, h1, h2⟩
  exact ⟨v', by rw [txErr, if_neg (by omega)]; rfl, h1, h2⟩

/-- Bytes don't lie where no byte is: what is written there leaves them. -/
theorem Byt.modF {w w' : World} {v : Value} {l : List Nat} {g : Nat} {cs : List Value} (h : Byt w v l) (hf : Fs w g cs) (hcs : ∀ u ∈ cs, ∀ z, u ≠ .int .u8 z) (hm : Mod (fun k => k = g) w w') : Byt w' v l := by
  cases l with
  | nil => exact Sl.empty w' h
  | cons b l =>
    refine Sl.mod h hm fun k hk e => ?_
    obtain ⟨A, c, rfl, _, _, h3⟩ := h
    obtain ⟨ad, rfl, hc⟩ := h3 0 (.int .u8 b) rfl
    obtain ⟨ty, hf⟩ := hf
    rw [Addr.add_zero'] at hc
    have hb : ad.block = g := by cases hk; exact e
    unfold World.cell? at hc
    rw [hb, hf] at hc
    simp only at hc
    split at hc
    · cases hc
    · have : Value.int .u8 b ∈ cs := by simpa using List.mem_of_getElem? (by simpa using hc)
      exact hcs _ this b rfl
theorem rec5_nob {a b c d : Int} {v : Value} (h : ∀ z, v ≠ .int .u8 z) : ∀ u ∈ [Value.int .i64 a, .int .i64 b, .int .i64 c, .int .i64 d, v], ∀ z, u ≠ .int .u8 z := by
  intro u hu z
  rcases List.mem_cons.1 hu with rfl | hu
  · intro e; cases e
  rcases List.mem_cons.1 hu with rfl | hu
  · intro e; cases e
  rcases List.mem_cons.1 hu with rfl | hu
  · intro e; cases e
  rcases List.mem_cons.1 hu with rfl | hu
  · intro e; cases e
  rw [List.mem_singleton] at hu; subst hu; exact h z
theorem Sl.nob {w : World} {v : Value} {xs : List Value} (h : Sl w v xs) : ∀ z, v ≠ .int .u8 z := by
  obtain ⟨A, c, rfl, _⟩ := h
  intro z e; cases e

set_option maxRecDepth 100000 in
set_option maxHeartbeats 800000 in
theorem JBytes_any {w : World} {row : List Value} {r : RecD} (h : RecR w row r) : Calls Try.prog 11 #[.agg row.toArray] w fun e w' => ∃ v', e = .returned (.tuple #[v', .int .i64 (jErr r : Nat)]) ∧ OwnB w.heap.size w' v' (jB r) ∧ Ext w w' := by
  obtain ⟨⟨u, rfl, hu⟩, hraw⟩ := h
  replace hraw := hide_ hraw
  refine calls_keep ?_
  by_cases hok : r.Ok
  · have E1 := hide_ (show jErr r = 0 from if_pos hok)
    have E2 := hide_ (show jB r = r.bs from if_pos hok)
    have hdec := hide_ (decide_eq_true hok)
    have hlen := hide_ (show (nuL r.nums).length + (txL r.t).length ≤ 140737488355328 from by have := r.pay_len hok; simp only [RecD.pay, List.length_append] at this; omega)
    replace hok := hide_ hok
    go_enter Try.func11, Try.ntmps11
    go_wp2_with ((first
      | (refine w_box _ [.int .i64 r.k, .int .i64 r.i, .int .i64 r.v, .int .i64 r.x, u] rfl rfl rfl rfl ?_; intro g1 w1 hg1 hX f1)
      | (refine w_aload Try.stRec _ rfl rfl rfl f1 rfl ?_)
      | (go_at_call 30; refine (canBe_any (RecR.made hu hraw.out hX)).mono ?_; rintro e w2 ⟨rfl, hx2⟩; rw [hdec.out]; replace f1 := f1.ext hx2; replace hX := hX.trans hx2; clear hx2)
      | (refine w_field Try.stRec _ _ _ rfl rfl rfl (by omega) ?_)
      | (refine w_fload _ rfl rfl rfl f1 rfl (agg_of (by kernel_rfl)) ?_)
      | (refine w_new Try.elI (i64s r.nums) rfl rfl rfl (i64s_cells _) rfl (by omega) ?_; intro v2 w3 hx3 o2; replace o2 : OwnI _ w3 v2 r.nums := o2; replace f1 := f1.ext hx3; replace hX := hX.trans hx3; clear hx3)
      | (go_at_call 31; refine (Nums_ok hok.out o2.ints).mono ?_; rintro e w4 ⟨v3, rfl, o3, hx4⟩; replace o3 := o3.mono hX.size; replace f1 := f1.ext hx4; replace hX := hX.trans hx4; clear o2 hx4)
      | (refine appb _ _ rfl rfl rfl rfl o3 b4 hlen.out hX.size ?_; intro v5 w6 o5 hb6 hg6; replace o5 : OwnB _ w6 v5 r.pay := o5; replace hX := hX.trans' hb6; have b5 := o5.byt; clear o3 b4 hb6 hg6 o5)
      | (go_at_call 32; refine (Text_ok (by have := r.pay_len hok.out; omega) b5).mono ?_; rintro e w7 ⟨v6, rfl, o6, hx7⟩; replace o6 := o6.mono hX.size; replace hX := hX.trans hx7; clear b5 hx7)
      | (go_at_call 32; refine (Text_ok (by have := hok.out.2.2.2.2; omega) (hu.ext hX)).mono ?_; rintro e w5 ⟨v4, rfl, o4, hx5⟩; have b4 := o4.byt; replace o3 := o3.ext hx5; replace f1 := f1.ext hx5; replace hX := hX.trans hx5; clear o4 hx5)
      | fail) <;> (try simp only [Act.put, List.setIfInBounds_toArray, List.set_cons_zero, List.set_cons_succ]))
    go_ret2
    exact Keep.intro ⟨_, by rw [E1.out]; rfl, by rw [E2.out]; exact o6, hX⟩
  · have E1 := hide_ (show jErr r = 51 from if_neg hok)
    have E2 := hide_ (show jB r = [] from if_neg hok)
    have hdec := hide_ (decide_eq_false hok)
    clear hok
    go_enter Try.func11, Try.ntmps11
    go_wp2_with ((first
      | (refine w_box _ [.int .i64 r.k, .int .i64 r.i, .int .i64 r.v, .int .i64 r.x, u] rfl rfl rfl rfl ?_; intro g1 w1 hg1 hX f1)
      | (refine w_aload Try.stRec _ rfl rfl rfl f1 rfl ?_)
      | (go_at_call 30; refine (canBe_any (RecR.made hu hraw.out hX)).mono ?_; rintro e w2 ⟨rfl, hx2⟩; rw [hdec.out]; replace f1 := f1.ext hx2; replace hX := hX.trans hx2; clear hx2)
      | fail) <;> (try simp only [Act.put, List.setIfInBounds_toArray, List.set_cons_zero, List.set_cons_succ]))
    go_ret2
    exact Keep.intro ⟨_, by rw [E1.out]; rfl, by rw [E2.out]; exact OwnB.nil _ _, hX⟩
end Go.Proofs.Ytfhecifgpjbeiaa
