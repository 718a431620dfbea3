/- Read of package msg. -/
import Derived.Test.YtgbhbifdfcfamaaMg4
import Derived.Test.YtgbhbifdfcfamaaRdNum
namespace Go.Proofs.Ytgbhbifdfcfamaa
set_option maxRecDepth 100000
open Go.RowKit

/-- Bytes don't lie where no byte is: what is written there leaves them. -/
theorem Byt.modM {w w' : World} {v : Value} {l : List Nat} {g : Nat} {cs : List Value} (h : Byt w v l) (hf : Fs w g cs) (hcs : ∀ u ∈ cs, ∀ z, u ≠ .int .u8 z) (hm : Mod (fun k => k = g) w w') : Byt w' v l := by
  cases l with
  | nil => exact Sl.empty w' h
  | cons b l =>
    refine Sl.mod h hm fun k hk e => ?_
    obtain ⟨A, c, rfl, _, _, h3⟩ := h
    obtain ⟨ad, rfl, hc⟩ := h3 0 (.int .u8 b) rfl
    obtain ⟨ty, hf⟩ := hf
    rw [Addr.add_zero'] at hc
    have hb : ad.block = g := by cases hk; exact e
    unfold World.cell? at hc
    rw [hb, hf] at hc
    simp only at hc
    split at hc
    · cases hc
    · have : Value.int .u8 b ∈ cs := by simpa using List.mem_of_getElem? (by simpa using hc)
      exact hcs _ this b rfl
theorem mz_nob : ∀ u ∈ mZero, ∀ z, u ≠ .int .u8 z := by
  intro u hu z
  simp only [mZero, List.mem_cons, List.not_mem_nil, or_false] at hu
  rcases hu with rfl | rfl | rfl | rfl | rfl | rfl | rfl | rfl | rfl | rfl | rfl | rfl | rfl
  all_goals exact fun h => by cases h
theorem TagRight_x (key : BitVec 64) {n : Nat} (hn : W64 n) {v : Value} {l : List Nat} {w : World} (hb : ∀ x ∈ l, x < 256) (hv : Byt w v l) {b : Bool} (hbool : decide (markB key l = BitVec.ofNat 64 n) = b) :
    Calls Try.prog 45 #[.int .u64 (key.toNat : Int), .int .u64 (n : Int), v] w fun e w' => e = .returned (.bool b) ∧ Ext w w' := by
  have h := TagRight_any key (BitVec.ofNat 64 n) v l w hb hv b hbool
  rwa [BitVec.toNat_ofNat, Nat.mod_eq_of_lt hn] at h
/-- What Read tells: the message, its block's list new. -/
def MRead (w : World) (b : List Nat) (e : Ending) (w' : World) : Prop := ∃ u, e = .returned (.tuple #[.agg (mRow (mOr (rdMsg b)) u).toArray, .int .i64 (omE (rdMsg b) : Nat)]) ∧ Ext w w' ∧ OwnT w.heap.size w' u (mOr (rdMsg b)).bk.txs
set_option maxRecDepth 100000 in
set_option maxHeartbeats 3200000 in
theorem MRead_any {w : World} {v : Value} {b : List Nat} (hb : ∀ x ∈ b, x < 256) (hlen : b.length ≤ 140737488355328) (hv : Byt w v b) :
    Calls Try.prog 22 #[v] w fun e w' => MRead w b e w' := by
  refine calls_keep ?_
  replace hv := hide_ hv
  have No : rdMsg b = none → Hid (∀ e w', e = .returned (.tuple #[.agg mZero.toArray, .int .i64 121]) → Ext w w' → Keep (MRead w b) e w') := fun h => hide_ (fun e w' he hx => Keep.intro ⟨.slice none 0 0, by rw [he, h]; rfl, hx, by rw [h]; exact OwnT.nil _ _⟩)
  by_cases h0 : (rd b).2 = 0
  · have hre := hide_ (show rdErr b = 11 from if_pos h0)
    replace No := No (by unfold rdMsg; rw [if_neg (fun h => h.1 h0)])
    clear h0
    go_enter Try.func22, Try.ntmps22
    go_wp2_with ((first
      | (go_at_call 42; refine (ReadNum_any _ b _ hb (hv.out.ext hX) hlen).mono ?_; rintro e w2 ⟨v2, rfl, o2, hx⟩; rw [hre.out]; have b2 := o2.byt; clear o2; replace f2 := f2.ext hx; replace hX := hX.trans hx; clear hx)
      | ((with_reducible refine at_alloc ?_); refine w_agalloc Try.agMsg rfl rfl ?_; intro g2 w1 hg2 hX f2)
      | ((with_reducible refine at_sbuild ?_); refine w_mbuild mZero rfl rfl rfl (by intro p hp; simp at hp) ?_)
      | ((with_reducible refine at_store ?_); refine w_agput Try.agMsg (us := mZero) (.tmp 2) _ rfl rfl rfl rfl rfl f2 rfl rfl (m_one (d := MsgD.zero) rfl) ?_; intro w9 hm f9; replace f2 := f9; replace hX := hm.after hX (fun i e => e ▸ hg2); clear hm f9)
      | fail) <;> (try simp only [Act.put, List.setIfInBounds_toArray, List.set_cons_zero, List.set_cons_succ]))
    exact bodyPost_ret (ag_two Try.agMsg rfl rfl rfl f2 rfl) rfl (No.out _ _ rfl hX)
  have hre := hide_ (show rdErr b = 0 from if_neg h0)
  obtain ⟨⟨m, n⟩, hfr0⟩ : ∃ q : MsgD × Nat, frB (rdRest b) = q := ⟨_, rfl⟩
  have hraw0 := frB_raw (b := rdRest b) (rdRest_lt' hb)
  rw [hfr0] at hraw0
  have hraw := hide_ hraw0
  have hfr := hide_ hfr0
  have hs := hide_ (rdRest_lt' (l := b) hb)
  have hslen := hide_ (Nat.le_trans (rdRest_len b) hlen)
  have hw64 := hide_ (rd_was hb h0).2
  have hrd : rdMsg b = if n = 0 ∧ m.Right ∧ MarkOk b then some m else none := by
    unfold rdMsg
    rw [hfr0]
    simp only [ne_eq, h0, not_false_eq_true, true_and]
  have hmo : MarkOk b ↔ markB (keyB m.fm) (rdRest b) = BitVec.ofNat 64 (rd b).1 := by unfold MarkOk; rw [hfr0]
  clear h0 hraw0
  by_cases h1 : n = 0
  rotate_left
  · obtain ⟨q, hq⟩ : ∃ q : Int, ((n : Nat) : Int) = q := ⟨_, rfl⟩
    have hn := hide_ hq
    have tq : (q != 0) = true := by
      have : q ≠ 0 := by omega
      simpa using this
    replace No := No (by rw [hrd, if_neg (fun h => h1 h.1)])
    clear h1 hq hrd hmo hfr0
    go_enter Try.func22, Try.ntmps22
    go_wp2_with ((first
      | go_big_skip
      | (go_at_call 42; refine (ReadNum_any _ b _ hb (hv.out.ext hX) hlen).mono ?_; rintro e w2 ⟨v2, rfl, o2, hx⟩; rw [hre.out]; have b2 := o2.byt; clear o2; replace f2 := f2.ext hx; replace hX := hX.trans hx; clear hx)
      | (go_at_call 43; refine (fromBody_any hfr.out hs.out hslen.out b2).mono ?_; rintro e w3 ⟨u, rfl, hx, o3⟩; rw [hn.out]; have n2 : ∀ k, u.ownBlock = some k → ¬ k = g2 := (fun k hk e => by have := o3.new k hk; have := f2.lt; omega); replace o3 := o3.mono hX.size; replace b2 := b2.ext hx; replace f2 := f2.ext hx; replace hX := hX.trans hx; clear hx)
      | ((with_reducible refine at_alloc ?_); have ce := o3; clear ce; refine w_agalloc Try.agMsg rfl rfl ?_; intro g7 w5 hg7 hx f7; have hne := hide_ (show ¬ g2 = g7 from (by have := f2.lt; omega)); have n7 : ∀ k, u.ownBlock = some k → ¬ k = g7 := (fun k hk e => by have := o3.lt hk; omega); replace hg7 := Nat.le_trans hX.size hg7; replace o3 := o3.ext hx; replace b2 := b2.ext hx; replace f2 := f2.ext hx; replace hX := hX.trans hx; clear hx)
      | ((with_reducible refine at_alloc ?_); refine w_agalloc Try.agMsg rfl rfl ?_; intro g2 w1 hg2 hX f2)
      | ((with_reducible refine at_store ?_); have ce := f7; clear ce; refine w_agput Try.agMsg (us := mRow m u) (.tmp 7) _ rfl rfl rfl rfl rfl f7 rfl rfl (m_one o3.recs.one') ?_; intro w9 hm f9; replace b2 := b2.modM f7 mz_nob hm; replace f7 := f9; replace f2 := f2.mod hm hne.out; replace o3 := o3.mod hm (fun k hk e => n7 k hk e); replace hX := hm.after hX (fun i e => e ▸ hg7); clear hm f9)
      | ((with_reducible refine at_sbuild ?_); refine w_mbuild mZero rfl rfl rfl (by intro p hp; simp at hp) ?_)
      | ((with_reducible refine at_store ?_); refine w_agput Try.agMsg (us := mZero) (.tmp 2) _ rfl rfl rfl rfl rfl f2 rfl rfl (m_one (d := MsgD.zero) rfl) ?_; intro w9 hm f9; replace f2 := f9; replace hX := hm.after hX (fun i e => e ▸ hg2); clear hm f9)
      | fail) <;> (try simp only [Act.put, List.setIfInBounds_toArray, List.set_cons_zero, List.set_cons_succ]))
    exact bodyPost_ret (ag_two Try.agMsg rfl rfl rfl f2 rfl) rfl (No.out _ _ rfl hX)
  have hn := hide_ (show ((n : Nat) : Int) = 0 from by omega)
  by_cases h2 : m.Right
  rotate_left
  · have hr := hide_ (decide_eq_false h2)
    replace No := No (by rw [hrd, if_neg (fun h => h2 h.2.1)])
    clear h1 h2 hrd hmo hfr0
    go_enter Try.func22, Try.ntmps22
    go_wp2_with ((first
      | go_big_skip
      | (go_at_call 42; refine (ReadNum_any _ b _ hb (hv.out.ext hX) hlen).mono ?_; rintro e w2 ⟨v2, rfl, o2, hx⟩; rw [hre.out]; have b2 := o2.byt; clear o2; replace f2 := f2.ext hx; replace hX := hX.trans hx; clear hx)
      | (go_at_call 43; refine (fromBody_any hfr.out hs.out hslen.out b2).mono ?_; rintro e w3 ⟨u, rfl, hx, o3⟩; rw [hn.out]; have n2 : ∀ k, u.ownBlock = some k → ¬ k = g2 := (fun k hk e => by have := o3.new k hk; have := f2.lt; omega); replace o3 := o3.mono hX.size; replace b2 := b2.ext hx; replace f2 := f2.ext hx; replace hX := hX.trans hx; clear hx)
      | (go_at_call 44; refine (MRight_any (d := m) (u := u) o3.recs hraw.out.1 hraw.out.2).mono ?_; rintro e w4 ⟨rfl, hx⟩; rw [hr.out]; replace f7 := f7.ext hx; replace o3 := o3.ext hx; replace b2 := b2.ext hx; replace f2 := f2.ext hx; replace hX := hX.trans hx; clear hx)
      | ((with_reducible refine at_alloc ?_); have ce := o3; clear ce; refine w_agalloc Try.agMsg rfl rfl ?_; intro g7 w5 hg7 hx f7; have hne := hide_ (show ¬ g2 = g7 from (by have := f2.lt; omega)); have n7 : ∀ k, u.ownBlock = some k → ¬ k = g7 := (fun k hk e => by have := o3.lt hk; omega); replace hg7 := Nat.le_trans hX.size hg7; replace o3 := o3.ext hx; replace b2 := b2.ext hx; replace f2 := f2.ext hx; replace hX := hX.trans hx; clear hx)
      | ((with_reducible refine at_alloc ?_); refine w_agalloc Try.agMsg rfl rfl ?_; intro g2 w1 hg2 hX f2)
      | ((with_reducible refine at_store ?_); have ce := f7; clear ce; refine w_agput Try.agMsg (us := mRow m u) (.tmp 7) _ rfl rfl rfl rfl rfl f7 rfl rfl (m_one o3.recs.one') ?_; intro w9 hm f9; replace b2 := b2.modM f7 mz_nob hm; replace f7 := f9; replace f2 := f2.mod hm hne.out; replace o3 := o3.mod hm (fun k hk e => n7 k hk e); replace hX := hm.after hX (fun i e => e ▸ hg7); clear hm f9)
      | ((with_reducible refine at_load ?_); (try refine w_yes _ _ _ rfl rfl rfl ?_); refine w_loadN Try.stMsg _ (mRow m u) rfl rfl rfl f7 rfl mself_at ?_)
      | ((with_reducible refine at_sbuild ?_); refine w_mbuild mZero rfl rfl rfl (by intro p hp; simp at hp) ?_)
      | ((with_reducible refine at_store ?_); refine w_agput Try.agMsg (us := mZero) (.tmp 2) _ rfl rfl rfl rfl rfl f2 rfl rfl (m_one (d := MsgD.zero) rfl) ?_; intro w9 hm f9; replace f2 := f9; replace hX := hm.after hX (fun i e => e ▸ hg2); clear hm f9)
      | fail) <;> (try simp only [Act.put, List.setIfInBounds_toArray, List.set_cons_zero, List.set_cons_succ]))
    exact bodyPost_ret (ag_two Try.agMsg rfl rfl rfl f2 rfl) rfl (No.out _ _ rfl hX)
  have hr := hide_ (decide_eq_true h2)
  by_cases h3 : MarkOk b
  rotate_left
  · have hmk := hide_ (decide_eq_false (fun h => h3 (hmo.2 h)))
    replace No := No (by rw [hrd, if_neg (fun h => h3 h.2.2)])
    clear h1 h2 h3 hrd hmo hfr0
    go_enter Try.func22, Try.ntmps22
    go_wp2_with ((first
      | go_big_skip
      | (go_at_call 42; refine (ReadNum_any _ b _ hb (hv.out.ext hX) hlen).mono ?_; rintro e w2 ⟨v2, rfl, o2, hx⟩; rw [hre.out]; have b2 := o2.byt; clear o2; replace f2 := f2.ext hx; replace hX := hX.trans hx; clear hx)
      | (go_at_call 43; refine (fromBody_any hfr.out hs.out hslen.out b2).mono ?_; rintro e w3 ⟨u, rfl, hx, o3⟩; rw [hn.out]; have n2 : ∀ k, u.ownBlock = some k → ¬ k = g2 := (fun k hk e => by have := o3.new k hk; have := f2.lt; omega); replace o3 := o3.mono hX.size; replace b2 := b2.ext hx; replace f2 := f2.ext hx; replace hX := hX.trans hx; clear hx)
      | (go_at_call 44; refine (MRight_any (d := m) (u := u) o3.recs hraw.out.1 hraw.out.2).mono ?_; rintro e w4 ⟨rfl, hx⟩; rw [hr.out]; replace f7 := f7.ext hx; replace o3 := o3.ext hx; replace b2 := b2.ext hx; replace f2 := f2.ext hx; replace hX := hX.trans hx; clear hx)
      | (go_at_call 46; refine (Key_x m.fm _).mono ?_; rintro e w4 ⟨rfl, hx⟩; replace f7 := f7.ext hx; replace o3 := o3.ext hx; replace b2 := b2.ext hx; replace f2 := f2.ext hx; replace hX := hX.trans hx; clear hx)
      | (go_at_call 45; refine (TagRight_x _ hw64.out hs.out b2 hmk.out).mono ?_; rintro e w4 ⟨rfl, hx⟩; replace f7 := f7.ext hx; replace o3 := o3.ext hx; replace b2 := b2.ext hx; replace f2 := f2.ext hx; replace hX := hX.trans hx; clear hx)
      | ((with_reducible refine at_alloc ?_); have ce := o3; clear ce; refine w_agalloc Try.agMsg rfl rfl ?_; intro g7 w5 hg7 hx f7; have hne := hide_ (show ¬ g2 = g7 from (by have := f2.lt; omega)); have n7 : ∀ k, u.ownBlock = some k → ¬ k = g7 := (fun k hk e => by have := o3.lt hk; omega); replace hg7 := Nat.le_trans hX.size hg7; replace o3 := o3.ext hx; replace b2 := b2.ext hx; replace f2 := f2.ext hx; replace hX := hX.trans hx; clear hx)
      | ((with_reducible refine at_alloc ?_); refine w_agalloc Try.agMsg rfl rfl ?_; intro g2 w1 hg2 hX f2)
      | ((with_reducible refine at_store ?_); have ce := f7; clear ce; refine w_agput Try.agMsg (us := mRow m u) (.tmp 7) _ rfl rfl rfl rfl rfl f7 rfl rfl (m_one o3.recs.one') ?_; intro w9 hm f9; replace b2 := b2.modM f7 mz_nob hm; replace f7 := f9; replace f2 := f2.mod hm hne.out; replace o3 := o3.mod hm (fun k hk e => n7 k hk e); replace hX := hm.after hX (fun i e => e ▸ hg7); clear hm f9)
      | ((with_reducible refine at_load ?_); (try refine w_yes _ _ _ rfl rfl rfl ?_); refine w_loadN Try.stMsg _ (mRow m u) rfl rfl rfl f7 rfl mself_at ?_)
      | ((with_reducible refine at_field ?_); (try refine w_yes _ _ _ rfl rfl rfl ?_); refine w_mfield _ _ _ rfl rfl rfl (by omega) ?_)
      | ((with_reducible refine at_load ?_); (try refine w_yes _ _ _ rfl rfl rfl ?_); refine w_fload _ rfl rfl rfl f7 rfl (agg_of (by kernel_rfl)) ?_)
      | ((with_reducible refine at_sbuild ?_); refine w_mbuild mZero rfl rfl rfl (by intro p hp; simp at hp) ?_)
      | ((with_reducible refine at_store ?_); refine w_agput Try.agMsg (us := mZero) (.tmp 2) _ rfl rfl rfl rfl rfl f2 rfl rfl (m_one (d := MsgD.zero) rfl) ?_; intro w9 hm f9; replace f2 := f9; replace hX := hm.after hX (fun i e => e ▸ hg2); clear hm f9)
      | fail) <;> (try simp only [Act.put, List.setIfInBounds_toArray, List.set_cons_zero, List.set_cons_succ]))
    exact bodyPost_ret (ag_two Try.agMsg rfl rfl rfl f2 rfl) rfl (No.out _ _ rfl hX)
  · have hmk := hide_ (decide_eq_true (hmo.1 h3))
    have hfin := hide_ (show rdMsg b = some m from by rw [hrd, if_pos ⟨h1, h2, h3⟩])
    clear h1 h2 h3 hrd hmo hfr0 No
    go_enter Try.func22, Try.ntmps22
    go_wp2_with ((first
      | go_big_skip
      | (go_at_call 42; refine (ReadNum_any _ b _ hb (hv.out.ext hX) hlen).mono ?_; rintro e w2 ⟨v2, rfl, o2, hx⟩; rw [hre.out]; have b2 := o2.byt; clear o2; replace f2 := f2.ext hx; replace hX := hX.trans hx; clear hx)
      | (go_at_call 43; refine (fromBody_any hfr.out hs.out hslen.out b2).mono ?_; rintro e w3 ⟨u, rfl, hx, o3⟩; rw [hn.out]; have n2 : ∀ k, u.ownBlock = some k → ¬ k = g2 := (fun k hk e => by have := o3.new k hk; have := f2.lt; omega); replace o3 := o3.mono hX.size; replace b2 := b2.ext hx; replace f2 := f2.ext hx; replace hX := hX.trans hx; clear hx)
      | (go_at_call 44; refine (MRight_any (d := m) (u := u) o3.recs hraw.out.1 hraw.out.2).mono ?_; rintro e w4 ⟨rfl, hx⟩; rw [hr.out]; replace f7 := f7.ext hx; replace o3 := o3.ext hx; replace b2 := b2.ext hx; replace f2 := f2.ext hx; replace hX := hX.trans hx; clear hx)
      | (go_at_call 46; refine (Key_x m.fm _).mono ?_; rintro e w4 ⟨rfl, hx⟩; replace f7 := f7.ext hx; replace o3 := o3.ext hx; replace b2 := b2.ext hx; replace f2 := f2.ext hx; replace hX := hX.trans hx; clear hx)
      | (go_at_call 45; refine (TagRight_x _ hw64.out hs.out b2 hmk.out).mono ?_; rintro e w4 ⟨rfl, hx⟩; replace f7 := f7.ext hx; replace o3 := o3.ext hx; replace b2 := b2.ext hx; replace f2 := f2.ext hx; replace hX := hX.trans hx; clear hx)
      | ((with_reducible refine at_alloc ?_); have ce := o3; clear ce; refine w_agalloc Try.agMsg rfl rfl ?_; intro g7 w5 hg7 hx f7; have hne := hide_ (show ¬ g2 = g7 from (by have := f2.lt; omega)); have n7 : ∀ k, u.ownBlock = some k → ¬ k = g7 := (fun k hk e => by have := o3.lt hk; omega); replace hg7 := Nat.le_trans hX.size hg7; replace o3 := o3.ext hx; replace b2 := b2.ext hx; replace f2 := f2.ext hx; replace hX := hX.trans hx; clear hx)
      | ((with_reducible refine at_alloc ?_); refine w_agalloc Try.agMsg rfl rfl ?_; intro g2 w1 hg2 hX f2)
      | ((with_reducible refine at_store ?_); have ce := f7; clear ce; refine w_agput Try.agMsg (us := mRow m u) (.tmp 7) _ rfl rfl rfl rfl rfl f7 rfl rfl (m_one o3.recs.one') ?_; intro w9 hm f9; replace b2 := b2.modM f7 mz_nob hm; replace f7 := f9; replace f2 := f2.mod hm hne.out; replace o3 := o3.mod hm (fun k hk e => n7 k hk e); replace hX := hm.after hX (fun i e => e ▸ hg7); clear hm f9)
      | ((with_reducible refine at_load ?_); (try refine w_yes _ _ _ rfl rfl rfl ?_); refine w_loadN Try.stMsg _ (mRow m u) rfl rfl rfl f7 rfl mself_at ?_)
      | ((with_reducible refine at_field ?_); (try refine w_yes _ _ _ rfl rfl rfl ?_); refine w_mfield _ _ _ rfl rfl rfl (by omega) ?_)
      | ((with_reducible refine at_load ?_); (try refine w_yes _ _ _ rfl rfl rfl ?_); refine w_fload _ rfl rfl rfl f7 rfl (agg_of (by kernel_rfl)) ?_)
      | ((with_reducible refine at_store ?_); refine w_agput Try.agMsg (us := mRow m u) (.tmp 2) _ rfl rfl rfl rfl rfl f2 rfl rfl (m_one o3.recs.one') ?_; intro w9 hm f9; replace f2 := f9; replace o3 := o3.mod hm (fun k hk e => n2 k hk e); replace hX := hm.after hX (fun i e => e ▸ hg2); clear hm f9)
      | fail) <;> (try simp only [Act.put, List.setIfInBounds_toArray, List.set_cons_zero, List.set_cons_succ]))
    exact bodyPost_ret (ag_two Try.agMsg rfl rfl rfl f2 rfl) rfl (Keep.intro ⟨u, by rw [hfin.out]; rfl, hX, by rw [hfin.out]; exact o3⟩)
end Go.Proofs.Ytgbhbifdfcfamaa
