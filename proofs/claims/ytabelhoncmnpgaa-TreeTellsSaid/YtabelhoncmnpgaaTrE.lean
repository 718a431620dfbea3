/- So many steps back; what two ways have in common. -/
import Derived.Test.YtabelhoncmnpgaaTrV
namespace Go.Proofs.Ytabelhoncmnpgaa
set_option maxRecDepth 100000
open Go.RowKit

/-- So many steps down a way. -/
def backN (L : List Int) (steps : Int) : Int := ((L.take (L.length - steps.toNat)).getLast?).getD 0
set_option maxRecDepth 100000 in
set_option maxHeartbeats 1600000 in
theorem Back_any {G : Nat → Prop} {w : World} {p : Nat} {K V : List BlkD} {n steps : Int} (h0 : TrW G w p K V) (hn : I64 n) (hs : I64 steps) :
    Calls Try.prog 34 #[.pointer (some ⟨p, 0, none⟩), .int .i64 n, .int .i64 steps] w fun e w' => e = .returned (.int .i64 (backN (TrS.path K n) steps)) ∧ Ext w w' := by
  refine calls_keep ?_
  replace h0 := hide_ h0
  replace hn := hide_ hn
  have hX := Ext.refl w
  obtain ⟨L, hL⟩ : ∃ L, TrS.path K n = L := ⟨_, rfl⟩
  have hlen : L.length ≤ 4096 := by rw [← hL]; exact path_len K n
  obtain ⟨s, hss, hs2⟩ : ∃ s : Nat, (s : Int) = max steps 0 ∧ s = steps.toNat := ⟨steps.toNat, by omega, rfl⟩
  have hmx := hide_ hss
  have hsb : s ≤ 9223372036854775807 := by have := hs.2; omega
  have hL' := hide_ hL
  rw [hL]
  clear hss hs hL
  by_cases hlt : L.length ≤ s
  · have hr := hide_ (show backN L steps = 0 from by unfold backN; rw [← hs2, Nat.sub_eq_zero_of_le hlt]; rfl)
    have t1 : decide ((L.length : Int) - 1 - (s : Int) < 0) = true := decide_eq_true (by omega)
    clear hs2
    go_enter Try.func34, Try.ntmps34
    go_wp2_with ((first
      | (go_at_call 32; refine (Path_any (n := n) (h0.out.ext hX) hn.out).mono ?_; rintro e w1 ⟨v1, rfl, o1, hx⟩; rw [hL'.out] at o1; replace o1 := o1.ints; replace hX := hX.trans hx; clear hx)
      | ((with_reducible refine at_bi ?_); refine i_len _ rfl rfl (v := v1) rfl o1 ?_)
      | ((with_reducible refine at_bi ?_); refine w_max _ _ (s : Int) hmx.out rfl rfl rfl rfl ?_)
      | fail) <;> (try simp only [Act.put, List.setIfInBounds_toArray, List.set_cons_zero, List.set_cons_succ]))
    go_ret
    exact Keep.intro ⟨by rw [hr.out]; rfl, hX⟩
  · obtain ⟨i, hi⟩ : ∃ i : Nat, (L.length : Int) - 1 - (s : Int) = (i : Int) := ⟨L.length - 1 - s, by omega⟩
    have hi2 : i < L.length := by omega
    have hr := hide_ (show backN L steps = L[i] from by
      unfold backN
      rw [← hs2, List.getLast?_eq_getElem?, List.length_take, List.getElem?_take_of_lt (by omega), show min (L.length - s) L.length - 1 = i from by omega, List.getElem?_eq_getElem hi2]; rfl)
    have hi2' := hide_ hi2
    have t1 : decide ((i : Int) < 0) = false := decide_eq_false (by omega)
    clear hs2
    go_enter Try.func34, Try.ntmps34
    go_wp2_with ((first
      | (go_at_call 32; refine (Path_any (n := n) (h0.out.ext hX) hn.out).mono ?_; rintro e w1 ⟨v1, rfl, o1, hx⟩; rw [hL'.out] at o1; replace o1 := o1.ints; replace hX := hX.trans hx; clear hx)
      | ((with_reducible refine at_bi ?_); refine i_len _ rfl rfl (v := v1) rfl o1 ?_)
      | ((with_reducible refine at_bi ?_); refine w_max _ _ (s : Int) hmx.out rfl rfl rfl rfl ?_)
      | ((with_reducible refine at_idx ?_); refine i_idx _ _ i rfl rfl rfl o1 rfl hi2'.out ?_; intro ad had; rw [← hr.out] at had)
      | fail) <;> (try simp only [Act.put, List.setIfInBounds_toArray, List.set_cons_zero, List.set_cons_succ]))
    go_ret
    exact Keep.intro ⟨rfl, hX⟩

theorem lcp_take : ∀ {p q : List Int} {k : Nat}, p.take k = q.take k → (p.length ≤ k ∨ q.length ≤ k ∨ ∃ a b, p[k]? = some a ∧ q[k]? = some b ∧ a ≠ b) → k ≤ p.length → k ≤ q.length → TrS.lcp p q = p.take k
  | [], q, k, _, _, hk, _ => by simp [TrS.lcp]
  | x :: p, [], k, _, _, _, hk => by
    obtain rfl : k = 0 := by simpa using hk
    simp [TrS.lcp]
  | x :: p, y :: q, 0, _, h, _, _ => by
    rcases h with h | h | ⟨a, b, h1, h2, h3⟩
    · simp at h
    · simp at h
    · simp at h1 h2; subst h1 h2
      simp [TrS.lcp, h3]
  | x :: p, y :: q, k + 1, he, h, h1, h2 => by
    simp only [List.take_succ_cons, List.cons.injEq] at he
    obtain ⟨rfl, he⟩ := he
    rw [TrS.lcp, if_pos rfl, List.take_succ_cons, lcp_take he ?_ (by simpa using h1) (by simpa using h2)]
    rcases h with h | h | ⟨a, b, h1, h2, h3⟩
    · exact .inl (by simpa using h)
    · exact .inr (.inl (by simpa using h))
    · exact .inr (.inr ⟨a, b, by simpa using h1, by simpa using h2, h3⟩)

set_option maxRecDepth 100000 in
set_option maxHeartbeats 1600000 in
theorem Common_any {G : Nat → Prop} {w : World} {p : Nat} {K V : List BlkD} {a b : Int} (h0 : TrW G w p K V) (ha : I64 a) (hb : I64 b) :
    Calls Try.prog 36 #[.pointer (some ⟨p, 0, none⟩), .int .i64 a, .int .i64 b] w fun e w' => e = .returned (.int .i64 (TrS.common K a b)) ∧ Ext w w' := by
  refine calls_keep ?_
  replace h0 := hide_ h0
  replace ha := hide_ ha
  replace hb := hide_ hb
  obtain ⟨la, hla⟩ : ∃ la, TrS.path K a = la := ⟨_, rfl⟩
  obtain ⟨lb, hlb⟩ : ∃ lb, TrS.path K b = lb := ⟨_, rfl⟩
  have hA : la.length ≤ 4096 := by rw [← hla]; exact path_len K a
  have hB : lb.length ≤ 4096 := by rw [← hlb]; exact path_len K b
  have hfin := hide_ (show ∀ k, la.take k = lb.take k → (la.length ≤ k ∨ lb.length ≤ k ∨ ∃ a b, la[k]? = some a ∧ lb[k]? = some b ∧ a ≠ b) → k ≤ la.length → k ≤ lb.length → ((la.take k).getLast?).getD 0 = TrS.common K a b from fun k h1 h2 h3 h4 => by
    rw [TrS.common, hla, hlb, lcp_take h1 h2 h3 h4])
  replace hla := hide_ hla
  replace hlb := hide_ hlb
  obtain ⟨m, hm⟩ : ∃ m : Nat, m = min la.length lb.length := ⟨_, rfl⟩
  have hm1 : m ≤ la.length := by omega
  have hm2 : m ≤ lb.length := by omega
  have hm3 := hide_ (show la.length ≤ m ∨ lb.length ≤ m from by omega)
  have hmm := hide_ (show (m : Int) = min (la.length : Int) (lb.length : Int) from by omega)
  clear hm
  go_enter Try.func36, Try.ntmps36
  go_wp2_with ((first
    | (go_at_call 32; refine (Path_any (n := b) h0'.out hb.out).mono ?_; rintro e W1 ⟨v2, rfl, o2, hx⟩; rw [hlb.out] at o2; replace o2 := hide_ o2.ints; replace o1 := hide_ (o1.out.ext hx); replace hX0 := hX0.trans hx; clear hx h0')
    | (go_at_call 32; refine (Path_any (n := a) h0.out ha.out).mono ?_; rintro e w1 ⟨v1, rfl, o1, hX0⟩; rw [hla.out] at o1; replace o1 := hide_ o1.ints; have h0' := hide_ (h0.out.ext hX0))
    | ((with_reducible refine at_bi ?_); refine i_len _ rfl rfl (v := v1) rfl o1.out ?_)
    | ((with_reducible refine at_bi ?_); refine i_len _ rfl rfl (v := v2) rfl o2.out ?_)
    | ((with_reducible refine at_bi ?_); refine w_min _ _ (m : Int) hmm.out rfl rfl rfl rfl ?_)
    | fail) <;> (try simp only [Act.put, List.setIfInBounds_toArray, List.set_cons_zero, List.set_cons_succ]))
  go_loopw [9, 22] (fun u9 i wr => ∃ k : Nat, i = .int .i64 k ∧ u9 = .int .i64 (((la.take k).getLast?).getD 0) ∧ k ≤ m ∧ Hid (la.take k = lb.take k) ∧ Ext W1 wr) (fun _ i _ => m - (RowKit.intOf i).toNat)
  case atStart => exact ⟨0, rfl, rfl, Nat.zero_le _, hide_ rfl, Ext.refl _⟩
  case round =>
    obtain ⟨k, rfl, rfl, hk, heq, hX⟩ := hrel
    by_cases hge : m ≤ k
    · obtain rfl : k = m := by omega
      have t2 : decide (k < k) = false := by simp
      have hr := hide_ (hfin.out k heq.out (hm3.out.elim .inl fun h => .inr (.inl h)) hm1 hm2)
      clear hge
      go_wp2
      go_ret
      exact Keep.intro ⟨by rw [← hr.out]; rfl, hX0.trans hX⟩
    have hlt : k < m := by omega
    have t2 : decide (k < m) = true := by simpa using hlt
    obtain ⟨x, hx0⟩ : ∃ x, la[k]? = some x := ⟨_, List.getElem?_eq_getElem (by omega)⟩
    obtain ⟨y, hy0⟩ : ∃ y, lb[k]? = some y := ⟨_, List.getElem?_eq_getElem (by omega)⟩
    have hxx := hide_ (show ∃ h : k < la.length, la[k] = x from List.getElem?_eq_some_iff.1 hx0)
    have hyy := hide_ (show ∃ h : k < lb.length, lb[k] = y from List.getElem?_eq_some_iff.1 hy0)
    have hlt' := hide_ hlt
    by_cases hxy : x = y
    · have hc := hide_ hxy
      have heq2 := hide_ (show la.take (k + 1) = lb.take (k + 1) from by rw [List.take_add_one, List.take_add_one, heq.out, hx0, hy0, hxy])
      have hlast := hide_ (show ((la.take (k + 1)).getLast?).getD 0 = x from by rw [List.take_add_one, hx0]; simp)
      clear hge hlt hx0 hy0 hxy heq
      go_wp2
      refine wp_region_phx (by kernel_rfl) ?_; intro wd hxd; have j1 := o1.out.ext (hX.trans hxd); have j2 := o2.out.ext (hX.trans hxd)
      refine Ph.rest 0 9 (by kernel_rfl) ?_
      refine LinL.step (s := (.val (v1))) [(7, none)] rfl (by kernel_rfl) (op_out 7 (v1) rfl (.inl rfl) rfl) ?_
      refine LinL.step (s := (.val (.int .i64 (k : Nat)))) [(10, none)] rfl (by kernel_rfl) (op_out 10 (.int .i64 (k : Nat)) rfl (.inl rfl) rfl) ?_
      refine LinL.step (s := (Sp.ptr (.int .i64 (x)))) [(25, some 1), (26, some 0)] rfl (by kernel_rfl) (op_runs rfl fun σ w' hx hg => rptri (ρ := σ.eval) (w := w') (.tmp 25) (.tmp 26) rfl hg.1 (j1.ext hx) k hg.2.1 hxx.out.choose hxx.out.choose_spec) ?_
      refine LinL.step (s := (.val (.int .i64 (x : Int)))) [(27, some 0)] rfl (by kernel_rfl) (op_runs rfl fun σ w' hx hg => ⟨_, runs_load (ρ := σ.eval) (w := w') (.tmp 27) rfl Try.underlying3 rfl hg.1, rfl⟩) ?_
      refine LinL.step (s := (.val (v2))) [(8, none)] rfl (by kernel_rfl) (op_out 8 (v2) rfl (.inl rfl) rfl) ?_
      refine LinL.step (s := (.val (.int .i64 (k : Nat)))) [(10, none)] rfl (by kernel_rfl) (op_out 10 (.int .i64 (k : Nat)) rfl (.inl rfl) rfl) ?_
      refine LinL.step (s := (Sp.ptr (.int .i64 (y)))) [(29, some 1), (30, some 0)] rfl (by kernel_rfl) (op_runs rfl fun σ w' hx hg => rptri (ρ := σ.eval) (w := w') (.tmp 29) (.tmp 30) rfl hg.1 (j2.ext hx) k hg.2.1 hyy.out.choose hyy.out.choose_spec) ?_
      refine LinL.step (s := (.val (.int .i64 (y : Int)))) [(31, some 0)] rfl (by kernel_rfl) (op_runs rfl fun σ w' hx hg => ⟨_, runs_load (ρ := σ.eval) (w := w') (.tmp 31) rfl Try.underlying3 rfl hg.1, rfl⟩) ?_
      refine LinL.step (s := (.val (.bool false))) [(28, some 4), (32, some 0)] rfl (by kernel_rfl) (op_runs rfl fun σ w' hx hg => ⟨(.bool false), by have h28 : σ.tmps.getD 28 undef = .int .i64 (x : Int) := hg.1; have h32 : σ.tmps.getD 32 undef = .int .i64 (y : Int) := hg.2.1; unfold Runs execOp; simp [Act.eval, h28, h32, go_sem, hc.out], rfl⟩) ?_
      intro wN hxN
      simp only [Fin', Sp.ptr, List.reverse_cons, List.reverse_nil, List.nil_append, List.cons_append, List.drop_zero, List.take_succ_cons, List.take_zero]
      intro q27 hq27 q31 hq31
      simp only [Act.put, List.setIfInBounds_toArray, List.set_cons_zero, List.set_cons_succ]
      replace hX := hX.trans (hxd.trans hxN)
      clear hxd hxN
      go_wp2_with ((first
        | ((with_reducible refine at_idx ?_); refine i_idx _ _ k rfl rfl rfl (o1.out.ext hX) rfl hxx.out.choose ?_; intro ad had; rw [hxx.out.choose_spec] at had)
        | fail) <;> (try simp only [Act.put, List.setIfInBounds_toArray, List.set_cons_zero, List.set_cons_succ]))
      go_roundw
      case rel => exact ⟨k + 1, by go_num, by rw [hlast.out], hlt'.out, heq2, hX⟩
      case measure => have := hlt'.out; simp [RowKit.intOf]; omega
    · have hc := hide_ hxy
      have hr := hide_ (hfin.out k heq.out (.inr (.inr ⟨x, y, hx0, hy0, hxy⟩)) (by omega) (by omega))
      clear hge hlt hx0 hy0 hxy heq
      go_wp2
      refine wp_region_phx (by kernel_rfl) ?_; intro wd hxd; have j1 := o1.out.ext (hX.trans hxd); have j2 := o2.out.ext (hX.trans hxd)
      refine Ph.rest 0 9 (by kernel_rfl) ?_
      refine LinL.step (s := (.val (v1))) [(7, none)] rfl (by kernel_rfl) (op_out 7 (v1) rfl (.inl rfl) rfl) ?_
      refine LinL.step (s := (.val (.int .i64 (k : Nat)))) [(10, none)] rfl (by kernel_rfl) (op_out 10 (.int .i64 (k : Nat)) rfl (.inl rfl) rfl) ?_
      refine LinL.step (s := (Sp.ptr (.int .i64 (x)))) [(25, some 1), (26, some 0)] rfl (by kernel_rfl) (op_runs rfl fun σ w' hx hg => rptri (ρ := σ.eval) (w := w') (.tmp 25) (.tmp 26) rfl hg.1 (j1.ext hx) k hg.2.1 hxx.out.choose hxx.out.choose_spec) ?_
      refine LinL.step (s := (.val (.int .i64 (x : Int)))) [(27, some 0)] rfl (by kernel_rfl) (op_runs rfl fun σ w' hx hg => ⟨_, runs_load (ρ := σ.eval) (w := w') (.tmp 27) rfl Try.underlying3 rfl hg.1, rfl⟩) ?_
      refine LinL.step (s := (.val (v2))) [(8, none)] rfl (by kernel_rfl) (op_out 8 (v2) rfl (.inl rfl) rfl) ?_
      refine LinL.step (s := (.val (.int .i64 (k : Nat)))) [(10, none)] rfl (by kernel_rfl) (op_out 10 (.int .i64 (k : Nat)) rfl (.inl rfl) rfl) ?_
      refine LinL.step (s := (Sp.ptr (.int .i64 (y)))) [(29, some 1), (30, some 0)] rfl (by kernel_rfl) (op_runs rfl fun σ w' hx hg => rptri (ρ := σ.eval) (w := w') (.tmp 29) (.tmp 30) rfl hg.1 (j2.ext hx) k hg.2.1 hyy.out.choose hyy.out.choose_spec) ?_
      refine LinL.step (s := (.val (.int .i64 (y : Int)))) [(31, some 0)] rfl (by kernel_rfl) (op_runs rfl fun σ w' hx hg => ⟨_, runs_load (ρ := σ.eval) (w := w') (.tmp 31) rfl Try.underlying3 rfl hg.1, rfl⟩) ?_
      refine LinL.step (s := (.val (.bool true))) [(28, some 4), (32, some 0)] rfl (by kernel_rfl) (op_runs rfl fun σ w' hx hg => ⟨(.bool true), by have h28 : σ.tmps.getD 28 undef = .int .i64 (x : Int) := hg.1; have h32 : σ.tmps.getD 32 undef = .int .i64 (y : Int) := hg.2.1; unfold Runs execOp; simp [Act.eval, h28, h32, go_sem, hc.out], rfl⟩) ?_
      intro wN hxN
      simp only [Fin', Sp.ptr, List.reverse_cons, List.reverse_nil, List.nil_append, List.cons_append, List.drop_zero, List.take_succ_cons, List.take_zero]
      intro q27 hq27 q31 hq31
      simp only [Act.put, List.setIfInBounds_toArray, List.set_cons_zero, List.set_cons_succ]
      replace hX := hX.trans (hxd.trans hxN)
      clear hxd hxN
      go_wp2
      go_ret
      exact Keep.intro ⟨by rw [← hr.out]; rfl, hX0.trans hX⟩
end Go.Proofs.Ytabelhoncmnpgaa
