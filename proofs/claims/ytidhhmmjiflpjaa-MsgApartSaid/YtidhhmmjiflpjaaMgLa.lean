/- msgAlive: a vote for nothing is written and read; under another's mark it isn't. -/
import Derived.Test.YtidhhmmjiflpjaaMg10
namespace Go.Proofs.Ytidhhmmjiflpjaa
set_option maxRecDepth 100000
open Go.RowKit

def mA : MsgD := ⟨4, 2, 0, 0, -1, 0, TxD.zero, BlkD.zero⟩
def m9 : MsgD := ⟨9, 0, 0, 0, 0, 0, TxD.zero, BlkD.zero⟩
def mA3 : BitVec 64 := markB (keyB 3) mA.body
theorem mA_right : mA.Right := by
  unfold MsgD.Right mA In VOk
  simp
theorem m9_no : ¬ m9.Right := fun h => by have := h.kd6; unfold In m9 at this; simp at this
theorem mA_raw : I64 mA.vl ∧ I64 mA.bk.parent := by unfold I64 mA BlkD.zero; simp
theorem m9_raw : I64 m9.vl ∧ I64 m9.bk.parent := by unfold I64 m9 BlkD.zero; simp
theorem key_ne : keyB 3 ≠ keyB 2 := by decide +kernel
theorem mA_other : rdMsg (numL mA3.toNat ++ mA.body) = none := by
  refine rdMsg_none (fun x hx => ?_) fun y hy => ?_
  · rcases List.mem_append.1 hx with h | h
    · exact numL_lt256 _ x h
    · exact mA.body_lt x h
  · have h := ((isMsg_mark mA_right (n := mA3.toNat) mA3.isLt y).1 hy).2
    have h2 : mA3 = mA.mark := BitVec.eq_of_toNat_eq h
    unfold mA3 MsgD.mark at h2
    exact key_ne (markB_key.1 h2)
set_option maxRecDepth 100000 in
set_option maxHeartbeats 3200000 in
theorem msgAlive_any (W : World) : Calls Try.prog 9 #[] W fun e w' => e = .returned (.bool true) ∧ Ext W w' := by
  refine calls_keep ?_
  have hbl := MsgD.bytes_len mA_right
  have hbl2 := MsgD.body_len mA_right
  have hn := numL_len10 (n := mA3.toNat) mA3.isLt
  have hlen := hide_ (show mA.bytes.length ≤ 140737488355328 from by omega)
  have hbig := hide_ (show (numL mA3.toNat).length + mA.body.length ≤ 140737488355328 from by omega)
  have hlen3 := hide_ (show (numL mA3.toNat ++ mA.body).length ≤ 140737488355328 from by rw [List.length_append]; omega)
  have hlt3 := hide_ (show ∀ x ∈ numL mA3.toNat ++ mA.body, x < 256 from fun x hx => by
    rcases List.mem_append.1 hx with h | h
    · exact numL_lt256 _ x h
    · exact mA.body_lt x h)
  have hrd := hide_ ((rdMsg_iff mA.bytes_lt mA).2 ⟨mA_right, rfl⟩)
  have hrd3 := hide_ mA_other
  have hself := hide_ (decide_eq_true (rfl : mA = mA))
  have h9 := hide_ (decide_eq_false m9_no)
  have hrest := hide_ (show rdRest mA.bytes = mA.body from rdRest_app mA.mark_w64 _)
  clear hbl hbl2 hn
  go_enter Try.func9, Try.ntmps9
  go_wp2_with ((first
    | go_big_skip
    | (go_at_call 10; refine (MBytes_yes (d := mA) (u := .slice none 0 0) mA_right (OwnT.nil 0 _).recs mA_raw.1 mA_raw.2).mono ?_; rintro e w3 ⟨v2, rfl, o2, hx⟩; have b2 := o2.byt; clear o2; replace f1 := f1.ext hx; replace hX := hX.trans hx; clear hx)
    | (have ce := b50; clear ce; go_at_call 17; refine (MRead_any (b := numL mA3.toNat ++ mA.body) hlt3.out hlen3.out b50).mono ?_; rintro e w3 ⟨u5, rfl, hx, o5⟩; rw [hrd3.out] at o5 ⊢; replace o5 : OwnT _ _ u5 MsgD.zero.bk.txs := o5; replace hX := hX.trans hx; clear hx)
    | (go_at_call 17; refine (MRead_any (b := mA.bytes) mA.bytes_lt hlen.out b2).mono ?_; rintro e w3 ⟨u, rfl, hx, o4⟩; rw [hrd.out] at o4 ⊢; replace o4 : OwnT _ _ u mA.bk.txs := o4; replace b2 := b2.ext hx; replace f1 := f1.ext hx; replace hX := hX.trans hx; clear hx)
    | (go_at_call 14; refine (MSame_any (a := mA) (b := mA) (u1 := u) (u2 := .slice none 0 0) o4.recs (OwnT.nil 0 _).recs).mono ?_; rintro e w3 ⟨rfl, hx⟩; rw [hself.out]; replace b2 := b2.ext hx; replace f1 := f1.ext hx; replace hX := hX.trans hx; clear hx)
    | (go_at_call 12; refine (MRight_any (d := m9) (u := .slice none 0 0) (OwnT.nil 0 _).recs m9_raw.1 m9_raw.2).mono ?_; rintro e w3 ⟨rfl, hx⟩; rw [h9.out]; replace b2 := b2.ext hx; replace f1 := f1.ext hx; replace hX := hX.trans hx; clear hx)
    | (go_at_call 19; refine (refReadNum_own _ mA.bytes _ mA.bytes_lt b2 hlen.out).mono ?_; rintro e w3 ⟨v7, rfl, o7, hx⟩; rw [hrest.out] at o7; have b7 := o7.byt; clear o7; replace b2 := b2.ext hx; replace f1 := f1.ext hx; replace hX := hX.trans hx; clear hx)
    | (go_at_call 23; refine (RKey_x 3 _).mono ?_; rintro e w4 ⟨rfl, hx⟩; replace b7 := b7.ext hx; replace hX := hX.trans hx; clear hx)
    | (go_at_call 22; refine (ROf_x _ _ mA.body _ mA.body_lt b7).mono ?_; rintro e w5 ⟨rfl, hx⟩; replace b7 := b7.ext hx; replace hX := hX.trans hx; clear hx)
    | (go_at_call 20; refine (refNum_any mA3.toNat _ mA3.isLt).mono ?_; rintro e w6 ⟨v6, rfl, o6, hx⟩; replace o6 := o6.mono hX.size; replace b7 := b7.ext hx; replace hX := hX.trans hx; clear hx)
    | ((with_reducible refine at_bi ?_); refine appb _ _ rfl rfl rfl rfl o6 b7 hbig.out hX.size ?_; intro v50 w9 o9 hb9 hg9; replace hX := hX.trans' hb9; have b50 := o9.byt; clear hb9 hg9 o9)
    | ((with_reducible refine at_sbuild ?_); refine w_mbuild (mRow mA (.slice none 0 0)) rfl rfl rfl (by intro p hp; simp at hp; rcases hp with rfl | rfl | rfl <;> exact ⟨by decide, rfl⟩) ?_)
    | ((with_reducible refine at_sbuild ?_); (try refine w_yes _ _ _ rfl rfl rfl ?_); refine w_mbuild (mRow m9 (.slice none 0 0)) rfl rfl rfl (by intro p hp; simp at hp; rcases hp with rfl; exact ⟨by decide, rfl⟩) ?_)
    | ((with_reducible refine at_alloc ?_); have ce := o5; clear ce; refine w_agalloc Try.agMsg rfl rfl ?_; intro g9 w5 hg9 hx f9; replace hg9 := Nat.le_trans hX.size hg9; replace o5 := o5.ext hx; replace hX := hX.trans hx; clear hx)
    | ((with_reducible refine at_alloc ?_); have ce := o4; clear ce; refine w_agalloc Try.agMsg rfl rfl ?_; intro g4 w5 hg4 hx f4; have hne := hide_ (show ¬ g1 = g4 from (by have := f1.lt; omega)); have n4 : ∀ k, u.ownBlock = some k → ¬ k = g4 := (fun k hk e => by have := o4.lt hk; omega); replace hg4 := Nat.le_trans hX.size hg4; replace o4 := o4.ext hx; replace b2 := b2.ext hx; replace f1 := f1.ext hx; replace hX := hX.trans hx; clear hx)
    | ((with_reducible refine at_alloc ?_); refine w_agalloc Try.agMsg rfl rfl ?_; intro g1 w1 hg1 hX f1)
    | ((with_reducible refine at_store ?_); refine w_agput Try.agMsg (us := mRow MsgD.zero u5) (.tmp 9) _ rfl rfl rfl rfl rfl f9 rfl rfl (m_one o5.recs.one') ?_; intro w9 hm f9'; replace hX := hm.after hX (fun i e => e ▸ hg9); clear hm f9')
    | ((with_reducible refine at_store ?_); refine w_agput Try.agMsg (us := mRow mA u) (.tmp 4) _ rfl rfl rfl rfl rfl f4 rfl rfl (m_one o4.recs.one') ?_; intro w9 hm f9; replace b2 := b2.modM f4 mz_nob hm; replace f4 := f9; replace f1 := f1.mod hm hne.out; replace o4 := o4.mod hm (fun k hk e => n4 k hk e); replace hX := hm.after hX (fun i e => e ▸ hg4); clear hm f9)
    | ((with_reducible refine at_store ?_); refine w_agput Try.agMsg (us := mRow mA (.slice none 0 0)) (.tmp 1) _ rfl rfl rfl rfl rfl f1 rfl rfl (m_one rfl) ?_; intro w9 hm f9; replace f1 := f9; replace hX := hm.after hX (fun i e => e ▸ hg1); clear hm f9)
    | ((with_reducible refine at_load ?_); (try refine w_yes _ _ _ rfl rfl rfl ?_); refine w_loadN Try.stMsg (.tmp 4) (mRow mA u) rfl rfl rfl f4 rfl mself_at ?_)
    | ((with_reducible refine at_load ?_); (try refine w_yes _ _ _ rfl rfl rfl ?_); refine w_loadN Try.stMsg (.tmp 1) (mRow mA (.slice none 0 0)) rfl rfl rfl f1 rfl mself_at ?_)
    | fail) <;> (try simp only [Act.put, List.setIfInBounds_toArray, List.set_cons_zero, List.set_cons_succ]))
  go_ret
  exact Keep.intro ⟨rfl, hX⟩
theorem aliveR (w : World) : Calls Try.prog 9 #[] w fun e w' => ∃ v', e = .returned v' ∧ Ext w w' ∧ Sp.p (.val (.bool true)) v' w' := by
  refine (msgAlive_any w).mono ?_
  rintro e w' ⟨rfl, hx⟩; exact ⟨_, rfl, hx, rfl⟩
end Go.Proofs.Ytidhhmmjiflpjaa
