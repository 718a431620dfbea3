/- Lists of lists of numbers among a law's parameters; does one list begin another; how often a number is there. -/
import Derived.Test.YtdoeoncmhaihbaaLgA
import Derived.Test.YtdoeoncmhaihbaaMAct
import Derived.Test.YtdoeoncmhaihbaaArgI
import Derived.Test.YtdoeoncmhaihbaaCLa
import Derived.Test.YtdoeoncmhaihbaaFL
namespace Go.Proofs.Ytdoeoncmhaihbaa
set_option maxRecDepth 100000
open Go.RowKit Go.ChangeShapes Go.WideShapes Go.ChangeAt

theorem arg_Ls {H : Type} {enc : TypeId × Value → H} {W : World} {base : Nat} {v : Value} {d : DataW H} {ps : List MemPlace} {ts : List TypeId} {ds : List (DataW H)} (hsz : (DataW.weightsEach Try.prog ts ds).all (· ≤ reachBytes) = true) {j : Nat} (ht : ts[j]? = some 29) (hd : ds[j]? = some d)
    (hval : Value.okWide Try.prog W .any base 29 v) (h : DataW.Trod enc Try.prog W 0 (fun _ => true) true 29 v d ps) : ∃ l : List (List Int), Recs 1 IntR W v l := by
  obtain ⟨a0, len0, cap0, rfl⟩ := okWide_slice Try.underlying29 hval
  obtain ⟨fuel, hf⟩ := h
  obtain ⟨l, hl, _⟩ := rd_recs (n := 1) (R := IntR) Try.underlying29 (by kernel_rfl) (fun fuel cs y hlen hy hw => by
    match cs, hlen with
    | [u], _ =>
      obtain ⟨l, h1, h2, h3⟩ := rd_ints hy hw
      exact ⟨l, ⟨u, rfl, h1⟩, h2⟩) hf (fits_arg hsz ht hd)
  exact ⟨l, hl⟩
theorem count_one {x : Int} : ∀ {l : List Int}, l.Nodup → x ∈ l → l.count x = 1
  | [], _, h => by cases h
  | y :: l, hn, h => by
    rw [List.nodup_cons] at hn
    by_cases e : y = x
    · subst e
      rw [List.count_cons_self, List.count_eq_zero_of_not_mem hn.1]
    · rw [List.count_cons_of_ne e]
      exact count_one hn.2 ((List.mem_cons.1 h).resolve_left (Ne.symm e))

set_option maxRecDepth 100000 in
set_option maxHeartbeats 1600000 in
theorem begins_yes {w : World} {va vb : Value} {la lb : List Int} (ha0 : Ints w va la) (hb0 : Ints w vb lb) (hp : la <+: lb) :
    Calls Try.prog 22 #[va, vb] w fun e w' => e = .returned (.bool true) ∧ Ext w w' := by
  refine calls_keep ?_
  have ha := hide_ ha0
  have hb := hide_ hb0
  have hl := hide_ hp.length_le
  have he := hide_ (List.prefix_iff_eq_take.1 hp)
  have tl : decide (la.length ≤ lb.length) = true := decide_eq_true hp.length_le
  have hX := Ext.refl w
  clear ha0 hb0 hp
  go_enter Try.func22, Try.ntmps22
  go_wp2_with ((first
    | (go_at_call 15; refine (SameInts_any _ _ la _ ha.out hv).mono ?_; rintro e w1 ⟨rfl, hx⟩; replace hX := hX.trans hx; clear hx)
    | ((with_reducible refine at_bi ?_); (try refine w_yes _ _ _ rfl rfl rfl ?_); refine i_len _ rfl rfl rfl ha.out ?_)
    | ((with_reducible refine at_bi ?_); (try refine w_yes _ _ _ rfl rfl rfl ?_); refine i_len _ rfl rfl rfl hb.out ?_)
    | ((with_reducible refine at_cut ?_); (try refine w_yes _ _ _ rfl rfl rfl ?_); refine w_ito _ _ la.length rfl rfl rfl hb.out rfl rfl hl.out ?_; intro v' hv; rw [← he.out] at hv)
    | fail) <;> (try simp only [Act.put, List.setIfInBounds_toArray, List.set_cons_zero, List.set_cons_succ]))
  go_ret
  exact Keep.intro ⟨rfl, hX⟩
end Go.Proofs.Ytdoeoncmhaihbaa
