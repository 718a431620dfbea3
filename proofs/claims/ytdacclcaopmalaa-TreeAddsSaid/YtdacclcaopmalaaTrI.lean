/- The first block of a queue that is ready: slices.IndexFunc with the tree's own method. -/
import Derived.Test.YtdacclcaopmalaaTrJ
namespace Go.Proofs.Ytdacclcaopmalaa
set_option maxRecDepth 100000
open Go.RowKit

/-- The first one that is ready. -/
def PickI (K V : List BlkD) (r : Int) : Prop := (r = -1 ∧ TrS.pick K V = none) ∨ ∃ (i : Nat) (x : BlkD), r = (i : Int) ∧ V[i]? = some x ∧ TrS.pick K V = some (x, V.eraseIdx i)
theorem pick_no {K : List BlkD} : ∀ {V : List BlkD}, (∀ x ∈ V, TrS.ready K x = false) → TrS.pick K V = none
  | [], _ => rfl
  | x :: V, h => by
    have h1 := h x (List.mem_cons_self ..)
    rw [TrS.pick, h1]
    simp only [Bool.false_eq_true, if_false]
    rw [pick_no fun y hy => h y (List.mem_cons_of_mem _ hy)]; rfl
theorem pick_at {K : List BlkD} : ∀ {V : List BlkD} {i : Nat} {x : BlkD}, V[i]? = some x → TrS.ready K x = true → (∀ y ∈ V.take i, TrS.ready K y = false) → TrS.pick K V = some (x, V.eraseIdx i)
  | [], i, x, h, _, _ => by simp at h
  | y :: V, 0, x, h, hr, _ => by
    simp at h; subst h
    rw [TrS.pick, if_pos hr]; rfl
  | y :: V, i + 1, x, h, hr, hn => by
    have h1 := hn y (by simp)
    rw [TrS.pick, h1]
    simp only [Bool.false_eq_true, if_false]
    rw [pick_at (i := i) (by simpa using h) hr fun z hz => hn z (by simp [hz])]; rfl

set_option maxRecDepth 100000 in
set_option maxHeartbeats 3200000 in
theorem IndexFunc_any {G : Nat → Prop} {w : World} {p : Nat} {K V U : List BlkD} {X : Nat → Prop} {v : Value} (h0 : TrW G w p K U) (hr0 : Recs 5 (QR X) w v V) (hfew : V.length ≤ 17) :
    Calls Try.prog 88 #[v, .func (.func 52) #[.pointer (some ⟨p, 0, none⟩)] #[]] w fun e w' => ∃ r : Int, e = .returned (.int .i64 r) ∧ PickI K V r ∧ Ext w w' := by
  refine calls_keep ?_
  replace h0 := hide_ h0
  have hr := hide_ hr0
  clear hr0
  go_enter Try.func88, Try.ntmps88
  go_wp2_with ((first
    | ((with_reducible refine at_bi ?_); refine w_rlen Try.enBlk.elS _ rfl rfl rfl hr.out ?_)
    | fail) <;> (try simp only [Act.put, List.setIfInBounds_toArray, List.set_cons_zero, List.set_cons_succ]))
  go_loopw [8] (fun i wr => ∃ k : Nat, i = .int .i64 k ∧ k ≤ V.length ∧ Hid (∀ y ∈ V.take k, TrS.ready K y = false) ∧ Ext w wr) (fun i _ => V.length - (RowKit.intOf i).toNat)
  case atStart => exact ⟨0, rfl, Nat.zero_le _, hide_ (by simp), Ext.refl _⟩
  case round =>
    obtain ⟨k, rfl, hk, hnt, hX⟩ := hrel
    by_cases hge : V.length ≤ k
    · obtain rfl : k = V.length := by omega
      have t2 : decide (V.length < V.length) = false := by simp
      rw [List.take_length] at hnt
      have hp := hide_ (pick_no hnt.out)
      clear hge
      go_wp2
      go_ret
      exact Keep.intro ⟨-1, rfl, .inl ⟨rfl, hp.out⟩, hX⟩
    have hlt : k < V.length := by omega
    have t2 : decide (k < V.length) = true := by simpa using hlt
    obtain ⟨d, hd0⟩ : ∃ d, V[k]? = some d := ⟨_, List.getElem?_eq_getElem hlt⟩
    have e0 : V.take (k + 1) = V.take k ++ [d] := by rw [List.take_add_one, hd0]; rfl
    have hlt' := hide_ hlt
    have hd := hide_ hd0
    cases q1 : TrS.ready K d
    · have hnt2 := hide_ (show ∀ y ∈ V.take (k + 1), TrS.ready K y = false from by
        rw [e0]
        intro y hy
        rcases List.mem_append.1 hy with hy | hy
        · exact hnt.out y hy
        · simp at hy; subst hy; exact q1)
      have q1' := hide_ q1
      clear hge hlt hd0 e0 hnt q1
      go_wp2_with ((first
        | (go_at_call 52; refine (ready_any (d := d) (u := u) (h0.out.ext hX) hpar.out).mono ?_; rintro e w4 ⟨rfl, hx⟩; rw [q1'.out]; replace hX := hX.trans hx; clear hx)
        | (refine w_qidx Try.enBlk.elS _ _ k rfl rfl rfl rfl hr.out hX hd.out ?_; intro pa u hrow htx; have hpar := hide_ htx.2.1.par; replace hrow := hide_ hrow; clear htx)
        | ((with_reducible refine at_load ?_); refine w_pload Try.stBlk _ rfl rfl rfl hrow.out rfl ?_)
        | fail) <;> (try simp only [Act.put, List.setIfInBounds_toArray, List.set_cons_zero, List.set_cons_succ]))
      go_roundw
      case rel => exact ⟨k + 1, by go_num, hlt'.out, hnt2, hX⟩
      case measure => have := hlt'.out; simp [RowKit.intOf]; omega
    · have hp := hide_ (pick_at hd0 q1 hnt.out)
      have q1' := hide_ q1
      clear hge hlt hd0 e0 hnt q1
      go_wp2_with ((first
        | (go_at_call 52; refine (ready_any (d := d) (u := u) (h0.out.ext hX) hpar.out).mono ?_; rintro e w4 ⟨rfl, hx⟩; rw [q1'.out]; replace hX := hX.trans hx; clear hx)
        | (refine w_qidx Try.enBlk.elS _ _ k rfl rfl rfl rfl hr.out hX hd.out ?_; intro pa u hrow htx; have hpar := hide_ htx.2.1.par; replace hrow := hide_ hrow; clear htx)
        | ((with_reducible refine at_load ?_); refine w_pload Try.stBlk _ rfl rfl rfl hrow.out rfl ?_)
        | fail) <;> (try simp only [Act.put, List.setIfInBounds_toArray, List.set_cons_zero, List.set_cons_succ]))
      go_ret
      exact Keep.intro ⟨(k : Nat), rfl, .inr ⟨k, d, rfl, hd.out, hp.out⟩, hX⟩
end Go.Proofs.Ytdacclcaopmalaa
