/- Messages, their bytes and their marks, as plain mathematics. No program. -/
import Derived.Test.YtgbhbifdfcfamaaBKA
import Derived.Test.YtgbhbifdfcfamaaTagInj
namespace Go.Proofs.Ytgbhbifdfcfamaa
set_option maxRecDepth 100000

structure MsgD where
  kd : Int
  fm : Int
  ix : Int
  vw : Int
  vl : Int
  pr : Int
  tx : TxD
  bk : BlkD
def TxD.zero : TxD := ⟨0, 0⟩
theorem TxD.zero_no : ¬ TxD.zero.Right := fun h => by have := h.1; simp [TxD.zero] at this
instance : DecidableEq BlkD := fun a b => decidable_of_iff (a.same b = true) BlkD.same_iff
theorem MsgD.eq_iff {a b : MsgD} : a = b ↔ [a.kd, a.fm, a.ix, a.vw, a.vl, a.pr] = [b.kd, b.fm, b.ix, b.vw, b.vl, b.pr] ∧ a.tx = b.tx ∧ a.bk = b.bk := by
  constructor
  · intro h; rw [h]; exact ⟨rfl, rfl, rfl⟩
  · rintro ⟨h1, h2, h3⟩
    obtain ⟨k, f, i, v, x, p, t, y⟩ := a
    obtain ⟨k', f', i', v', x', p', t', y'⟩ := b
    simp only [List.cons.injEq, and_true] at h1 h2 h3
    obtain ⟨rfl, rfl, rfl, rfl, rfl, rfl⟩ := h1
    rw [h2, h3]
instance : DecidableEq MsgD := fun _ _ => decidable_of_iff _ MsgD.eq_iff.symm
def MsgD.zero : MsgD := ⟨0, 0, 0, 0, 0, 0, TxD.zero, BlkD.zero⟩
/-- Can it be the value of a message of kind k? -/
def VOk (k v : Int) : Prop := (v = -1 ∧ (k = 4 ∨ k = 5)) ∨ v = 0 ∨ NmOk v
instance (k v : Int) : Decidable (VOk k v) := by unfold VOk; infer_instance
def In (a b n : Int) : Prop := a ≤ n ∧ n ≤ b
instance (a b n : Int) : Decidable (In a b n) := by unfold In; infer_instance
namespace MsgD
/-- What a message of its kind doesn't have is zero, what it has can be. -/
def Right (d : MsgD) : Prop := In 0 6 d.fm ∧ In 0 6 d.kd ∧ (if d.kd = 0 then d.tx.Right else d.tx = TxD.zero) ∧ (if d.kd = 1 then d.bk.Right else d.bk = BlkD.zero) ∧ (if 3 ≤ d.kd then In 0 1000 d.ix else d.ix = 0) ∧
  (if 3 ≤ d.kd ∧ d.kd ≤ 5 then In 0 1000 d.vw else d.vw = 0) ∧ (if 2 ≤ d.kd then VOk d.kd d.vl else d.vl = 0) ∧ (if d.kd = 3 then -1 ≤ d.pr ∧ d.pr < d.vw else d.pr = 0)
instance (d : MsgD) : Decidable d.Right := by unfold Right; infer_instance
def nums (d : MsgD) : List Int := [d.kd, d.fm, d.ix, d.vw, d.vl, d.pr]
def more (d : MsgD) : List Int := if d.kd = 0 then d.tx.nums else if d.kd = 1 then d.bk.nums else []
def body (d : MsgD) : List Nat := nuL (d.nums ++ d.more)
def mark (d : MsgD) : BitVec 64 := markB (keyB d.fm) d.body
def bytes (d : MsgD) : List Nat := numL d.mark.toNat ++ d.body
theorem nm_le {n : Int} (h : NmOk n) : 0 ≤ n ∧ n ≤ 268435455 := by obtain ⟨h1, h2, h3, h4⟩ := h; omega
theorem vOk_le {k n : Int} (h : VOk k n) : -1 ≤ n ∧ n ≤ 268435455 := by
  rcases h with h | h | h
  · omega
  · omega
  · have := nm_le h; omega
theorem Right.bound {d : MsgD} (h : d.Right) : In 0 6 d.kd ∧ In 0 6 d.fm ∧ In 0 1000 d.ix ∧ In 0 1000 d.vw ∧ (-1 ≤ d.vl ∧ d.vl ≤ 268435455) ∧ (-1 ≤ d.pr ∧ d.pr ≤ 1000) := by
  obtain ⟨h1, h2, _, _, h5, h6, h7, h8⟩ := h
  have a5 : In 0 1000 d.ix := by
    split at h5
    · exact h5
    · rw [h5]; decide
  have a6 : In 0 1000 d.vw := by
    split at h6
    · exact h6
    · rw [h6]; decide
  have a7 : -1 ≤ d.vl ∧ d.vl ≤ 268435455 := by
    split at h7
    · exact vOk_le h7
    · omega
  refine ⟨h2, h1, a5, a6, a7, ?_⟩
  unfold In at a6
  split at h8 <;> omega
theorem Right.rdb6 {d : MsgD} (h : d.Right) : Rdb d.nums := by
  obtain ⟨h1, h2, h3, h4, h5, h6⟩ := h.bound
  unfold In at *
  intro x hx
  simp only [nums, List.mem_cons, List.not_mem_nil, or_false] at hx
  rcases hx with rfl | rfl | rfl | rfl | rfl | rfl <;> omega
theorem Right.rdbMore {d : MsgD} (h : d.Right) : Rdb d.more := by
  obtain ⟨_, _, h3, h4, _⟩ := h
  unfold more
  split
  · rename_i hk; rw [if_pos hk] at h3; exact h3.rdb
  · split
    · rename_i hk; rw [if_pos hk] at h4; exact h4.rdb
    · intro x hx; simp at hx
theorem Right.rdb {d : MsgD} (h : d.Right) : Rdb (d.nums ++ d.more) := fun x hx => by
  rcases List.mem_append.1 hx with hx | hx
  · exact h.rdb6 x hx
  · exact h.rdbMore x hx
theorem body_eq (d : MsgD) : d.body = nuL d.nums ++ nuL d.more := nuL_app _ _
theorem body_lt (d : MsgD) : ∀ x ∈ d.body, x < 256 := nuL_lt _
theorem bytes_lt (d : MsgD) : ∀ x ∈ d.bytes, x < 256 := fun x hx => by
  rcases List.mem_append.1 hx with hx | hx
  · exact numL_lt256 _ x hx
  · exact d.body_lt x hx
theorem mark_w64 (d : MsgD) : W64 d.mark.toNat := d.mark.isLt
theorem all_inj {a b : MsgD} (ha : a.Right) (hb : b.Right) (h : a.nums ++ a.more = b.nums ++ b.more) : a = b := by
  obtain ⟨_, _, a3, a4, _⟩ := ha
  obtain ⟨_, _, b3, b4, _⟩ := hb
  obtain ⟨k, f, i, v, x, p, t, y⟩ := a
  obtain ⟨k', f', i', v', x', p', t', y'⟩ := b
  simp only [nums, List.cons_append, List.nil_append, List.cons.injEq] at h
  obtain ⟨rfl, rfl, rfl, rfl, rfl, rfl, h⟩ := h
  simp only [more] at h a3 a4 b3 b4
  by_cases h0 : k = 0
  · have h1 : k ≠ 1 := by omega
    rw [if_neg h1] at a4 b4
    rw [if_pos h0, if_pos h0] at h
    simp only [TxD.nums, List.cons.injEq, and_true] at h
    obtain ⟨e1, e2⟩ := h
    cases t; cases t'
    simp only at e1 e2
    rw [e1, e2, a4, b4]
  · rw [if_neg h0] at a3 b3
    rw [if_neg h0, if_neg h0] at h
    by_cases h1 : k = 1
    · rw [if_pos h1, if_pos h1] at h
      rw [BlkD.nums_inj h, a3, b3]
    · rw [if_neg h1] at a4 b4
      rw [a3, b3, a4, b4]
theorem body_inj {a b : MsgD} (ha : a.Right) (hb : b.Right) (h : a.body = b.body) : a = b := all_inj ha hb (nuL_inj ha.rdb hb.rdb h)
theorem body_of_bytes {a b : MsgD} (h : a.bytes = b.bytes) : a.body = b.body := by
  have h1 := congrArg rdRest h
  unfold bytes at h1
  rwa [rdRest_app a.mark_w64, rdRest_app b.mark_w64] at h1
theorem bytes_inj {a b : MsgD} (ha : a.Right) (hb : b.Right) : a.bytes = b.bytes ↔ a = b := ⟨fun h => body_inj ha hb (body_of_bytes h), fun h => by rw [h]⟩
theorem more_len {d : MsgD} (h : d.Right) : d.more.length ≤ 11 := by
  unfold more
  split
  · simp [TxD.nums]
  · split
    · rename_i hk
      have := h.2.2.2.1
      rw [if_pos hk] at this
      have := this.t.len
      rw [BlkD.nums_len]; omega
    · simp
theorem body_len {d : MsgD} (h : d.Right) : d.body.length ≤ 170 := by
  have h1 := nuL_len (d.nums ++ d.more) fun x hx => by have := h.rdb x hx; omega
  have h2 := more_len h
  unfold body
  have h3 : d.nums.length = 6 := rfl
  rw [List.length_append, h3] at h1
  omega
theorem bytes_len {d : MsgD} (h : d.Right) : d.bytes.length ≤ 180 := by
  have h1 := body_len h
  have h2 := numL_len10 d.mark_w64
  unfold bytes
  rw [List.length_append]; omega
end MsgD
/-- b is the bytes of x. -/
def IsMsg (b : List Nat) (x : MsgD) : Prop := x.Right ∧ b = x.bytes
theorem IsMsg.one {b : List Nat} {x y : MsgD} (h : IsMsg b x) (k : IsMsg b y) : x = y := (MsgD.bytes_inj h.1 k.1).1 (h.2.symm.trans k.2)
def lE (s : List Nat) : Nat := if s = [] then 0 else 121
/-- What is read out of a body, and the error: whether it can be isn't asked. -/
def frB (b : List Nat) : MsgD × Nat := match rns 6 b with
  | some ([k, f, i, v, x, p], s) => if k = 0 then (⟨k, f, i, v, x, p, tOr (rdTx s), BlkD.zero⟩, oE (rdTx s)) else if k = 1 then (⟨k, f, i, v, x, p, TxD.zero, bOr (rdBlk s)⟩, obE (rdBlk s)) else (⟨k, f, i, v, x, p, TxD.zero, BlkD.zero⟩, lE s)
  | _ => (MsgD.zero, 11)
theorem frB_c1 {b : List Nat} (h : rns 6 b = none) : frB b = (MsgD.zero, 11) := by unfold frB; rw [h]
theorem frB_c2 {b s : List Nat} {k f i v x p : Int} (h : rns 6 b = some ([k, f, i, v, x, p], s)) (hk : k = 0) : frB b = (⟨k, f, i, v, x, p, tOr (rdTx s), BlkD.zero⟩, oE (rdTx s)) := by unfold frB; rw [h]; exact if_pos hk
theorem frB_c3 {b s : List Nat} {k f i v x p : Int} (h : rns 6 b = some ([k, f, i, v, x, p], s)) (hk : k = 1) : frB b = (⟨k, f, i, v, x, p, TxD.zero, bOr (rdBlk s)⟩, obE (rdBlk s)) := by unfold frB; rw [h]; simp only; rw [if_neg (by omega), if_pos hk]
theorem frB_c4 {b s : List Nat} {k f i v x p : Int} (h : rns 6 b = some ([k, f, i, v, x, p], s)) (hk : k ≠ 0) (hk' : k ≠ 1) : frB b = (⟨k, f, i, v, x, p, TxD.zero, BlkD.zero⟩, lE s) := by unfold frB; rw [h]; simp only; rw [if_neg hk, if_neg hk']
def MarkOk (b : List Nat) : Prop := markB (keyB (frB (rdRest b)).1.fm) (rdRest b) = BitVec.ofNat 64 (rd b).1
instance (b : List Nat) : Decidable (MarkOk b) := by unfold MarkOk; infer_instance
/-- The message of bytes. -/
def rdMsg (b : List Nat) : Option MsgD := if (rd b).2 ≠ 0 ∧ (frB (rdRest b)).2 = 0 ∧ (frB (rdRest b)).1.Right ∧ MarkOk b then some (frB (rdRest b)).1 else none
/-- A body read is the one that is written. -/
theorem frB_was {b : List Nat} (hb : ∀ x ∈ b, x < 256) (h0 : (frB b).2 = 0) : (frB b).1.body = b := by
  cases hr : rns 6 b with
  | none => rw [frB_c1 hr] at h0; cases h0
  | some pr =>
    obtain ⟨xs, s⟩ := pr
    obtain ⟨h1, h2, _⟩ := rns_was 6 b xs s hb hr
    have hs : ∀ x ∈ s, x < 256 := fun x hx => hb x (by rw [h1]; exact List.mem_append_right _ hx)
    match xs, h2 with
    | [k, f, i, v, x, p], _ =>
      by_cases hk : k = 0
      · rw [frB_c2 hr hk] at h0 ⊢
        cases ht : rdTx s with
        | none => rw [ht] at h0; cases h0
        | some t =>
          have := (rdTx_some hs ht).2
          rw [MsgD.body_eq, h1]
          simp only [MsgD.more, MsgD.nums, hk, if_true, tOr]
          rw [this]
      · by_cases hk1 : k = 1
        · rw [frB_c3 hr hk1] at h0 ⊢
          cases ht : rdBlk s with
          | none => rw [ht] at h0; cases h0
          | some t =>
            have := ((rdBlk_iff hs t).1 ht).2
            rw [MsgD.body_eq, h1]
            simp only [MsgD.more, MsgD.nums, if_neg hk, if_pos hk1, bOr]
            rw [this]; rfl
        · rw [frB_c4 hr hk hk1] at h0 ⊢
          have hs0 : s = [] := by
            by_cases e : s = []
            · exact e
            · have h1 : lE s = 121 := if_neg e
              rw [h1] at h0; cases h0
          rw [MsgD.body_eq, h1, hs0]
          simp only [MsgD.more, MsgD.nums, if_neg hk, if_neg hk1]; rfl
theorem frB_body {x : MsgD} (h : x.Right) : frB x.body = (x, 0) := by
  have hr : rns 6 x.body = some (x.nums, nuL x.more) := by
    have := rns_few (xs := x.nums) (ys := x.more) h.rdb []
    simpa [MsgD.body, MsgD.nums] using this
  obtain ⟨_, _, h3, h4, _⟩ := h
  obtain ⟨k, f, i, v, y, p, t, z⟩ := x
  simp only [MsgD.nums] at hr h3 h4
  by_cases hk : k = 0
  · rw [if_pos hk] at h3; rw [if_neg (by omega)] at h4
    rw [frB_c2 hr hk]
    simp only [MsgD.more, if_pos hk, rdTx_yes h3, tOr, oE, h4]
  · rw [if_neg hk] at h3
    by_cases hk1 : k = 1
    · rw [if_pos hk1] at h4
      rw [frB_c3 hr hk1]
      have := (rdBlk_iff (b := z.bytes) z.bytes_lt z).2 ⟨h4, rfl⟩
      simp only [MsgD.more, if_neg hk, if_pos hk1]
      rw [show nuL z.nums = z.bytes from rfl, this, h3]; rfl
    · rw [if_neg hk1] at h4
      rw [frB_c4 hr hk hk1]
      simp only [MsgD.more, if_neg hk, if_neg hk1, h3, h4]; rfl
theorem isMsg_fr {b : List Nat} {x : MsgD} (h : IsMsg b x) : (rd b).2 ≠ 0 ∧ (rd b).1 = x.mark.toNat ∧ rdRest b = x.body ∧ frB (rdRest b) = (x, 0) := by
  obtain ⟨h1, rfl⟩ := h
  have e : rdRest x.bytes = x.body := rdRest_app x.mark_w64 _
  refine ⟨rd2_ne x.mark_w64 _, ?_, e, by rw [e]; exact frB_body h1⟩
  show (rd (numL x.mark.toNat ++ x.body)).1 = _
  rw [rd_app x.mark_w64]
theorem rdMsg_iff {b : List Nat} (hb : ∀ x ∈ b, x < 256) (x : MsgD) : rdMsg b = some x ↔ IsMsg b x := by
  constructor
  · intro h
    unfold rdMsg at h
    split at h
    · rename_i hc
      obtain ⟨h1, h2, h3, h4⟩ := hc
      cases h
      obtain ⟨hw, hw64⟩ := rd_was hb h1
      have hbody := frB_was (rdRest_lt' hb) h2
      refine ⟨h3, ?_⟩
      have hm : (frB (rdRest b)).1.mark.toNat = (rd b).1 := by
        unfold MsgD.mark
        rw [hbody, h4, BitVec.toNat_ofNat, Nat.mod_eq_of_lt hw64]
      unfold MsgD.bytes
      rw [hm, hbody]; exact hw
    · cases h
  · intro h
    obtain ⟨h1, h2, h3, h4⟩ := isMsg_fr h
    unfold rdMsg
    rw [if_pos ⟨h1, by rw [h4], by rw [h4]; exact h.1, by unfold MarkOk; rw [h4, h3, h2, BitVec.ofNat_toNat, BitVec.setWidth_eq]; rfl⟩, h4]
theorem rdMsg_none {b : List Nat} (hb : ∀ x ∈ b, x < 256) (h : ∀ x, ¬ IsMsg b x) : rdMsg b = none := by
  cases hr : rdMsg b with
  | none => rfl
  | some x => exact absurd ((rdMsg_iff hb x).1 hr) (h x)
/-- As the document reads: written again, and held against them. -/
theorem rdMsg_again {b : List Nat} (hb : ∀ x ∈ b, x < 256) (h : (frB (rdRest b)).1.Right) (hs : (frB (rdRest b)).1.bytes = b) : rdMsg b = some (frB (rdRest b)).1 := (rdMsg_iff hb _).2 ⟨h, hs.symm⟩
theorem rdMsg_else {b : List Nat} (hb : ∀ x ∈ b, x < 256) (h : (frB (rdRest b)).1.Right → (frB (rdRest b)).1.bytes ≠ b) : rdMsg b = none :=
  rdMsg_none hb fun x hx => by
    obtain ⟨_, _, _, h4⟩ := isMsg_fr hx
    rw [h4] at h
    exact h hx.1 hx.2.symm
def mOr (o : Option MsgD) : MsgD := match o with | some x => x | none => MsgD.zero
def omE (o : Option MsgD) : Nat := match o with | some _ => 0 | none => 121
def mB (x : MsgD) : List Nat := if x.Right then x.bytes else []
def mE (x : MsgD) : Nat := if x.Right then 0 else 121
/-- Bytes of a body with this mark. -/
theorem isMsg_mark {x : MsgD} (hx : x.Right) {n : Nat} (hn : W64 n) (y : MsgD) : IsMsg (numL n ++ x.body) y ↔ y = x ∧ n = x.mark.toNat := by
  constructor
  · rintro ⟨h1, h2⟩
    have hb := congrArg rdRest h2
    unfold MsgD.bytes at hb
    rw [rdRest_app hn, rdRest_app y.mark_w64] at hb
    have e := MsgD.body_inj hx h1 hb
    subst e
    have hr := congrArg (fun l => (rd l).1) h2
    unfold MsgD.bytes at hr
    simp only [rd_app hn, rd_app x.mark_w64] at hr
    exact ⟨rfl, hr⟩
  · rintro ⟨rfl, rfl⟩; exact ⟨hx, rfl⟩
end Go.Proofs.Ytgbhbifdfcfamaa
