/- The contracts of tag.Key, tag.Of and tag.Right: numbers of 64 bits that go round. · Marks part: what unlike keys, an unlike byte and an unlike end do to a mark. · Messages, their bytes and their marks, as plain mathematics. No program. · A message, among a law's parameters; a message's cells, its parts, an array of its numbers. · What a parameter of type []int reads as. -/
import Derived.Test.YtajkjiegcmpjaaaGreatFA
import Derived.Test.YtajkjiegcmpjaaaGreatBKA
import Derived.Test.YtajkjiegcmpjaaaGreatPk03
import Derived.ChangeKeysEq
namespace Go.Proofs.YtajkjiegcmpjaaaGreat
set_option maxRecDepth 100000
open Go.RowKit
def keyB (n : Int) : BitVec 64 := (BitVec.ofInt 64 n + 1#64) * 11400714819323198485#64
def stepB (h : BitVec 64) (c : Nat) : BitVec 64 := (h ^^^ BitVec.ofNat 64 c) * 1099511628211#64
def finB (h : BitVec 64) : BitVec 64 := h ^^^ (h >>> 29)
def markB (key : BitVec 64) (l : List Nat) : BitVec 64 := finB (l.foldl stepB (key ^^^ 14695981039346656037#64))
def Parts (w : World) (v : Value) (ls : List (List Nat)) : Prop := ∃ vs : List Value, Sl w v vs ∧ vs.length = ls.length ∧ ∀ (k : Nat) (u : Value) (l : List Nat), vs[k]? = some u → ls[k]? = some l → Byt w u l
theorem Parts.ext {w w' : World} {v : Value} {ls : List (List Nat)} (h : Parts w v ls) (he : Ext w w') : Parts w' v ls := by
  obtain ⟨vs, h1, h2, h3⟩ := h
  exact ⟨vs, h1.ext he, h2, fun k u l hu hl => (h3 k u l hu hl).ext he⟩
theorem Parts.nil (w : World) : Parts w (.slice none 0 0) [] := ⟨[], Sl.nil w, rfl, fun k u l h => by simp at h⟩
end Go.Proofs.YtajkjiegcmpjaaaGreat
namespace Go.Proofs.YtajkjiegcmpjaaaGreat
set_option maxRecDepth 100000
end Go.Proofs.YtajkjiegcmpjaaaGreat
namespace Go.Proofs.YtajkjiegcmpjaaaGreat
set_option maxRecDepth 100000
structure MsgD where
  kd : Int
  fm : Int
  ix : Int
  vw : Int
  vl : Int
  pr : Int
  tx : TxD
  bk : BlkD
def TxD.zero : TxD := ⟨0, 0⟩
instance : DecidableEq BlkD := fun a b => decidable_of_iff (a.same b = true) BlkD.same_iff
theorem MsgD.eq_iff {a b : MsgD} : a = b ↔ [a.kd, a.fm, a.ix, a.vw, a.vl, a.pr] = [b.kd, b.fm, b.ix, b.vw, b.vl, b.pr] ∧ a.tx = b.tx ∧ a.bk = b.bk := by
  constructor
  · intro h; rw [h]; exact ⟨rfl, rfl, rfl⟩
  · rintro ⟨h1, h2, h3⟩
    obtain ⟨k, f, i, v, x, p, t, y⟩ := a
    obtain ⟨k', f', i', v', x', p', t', y'⟩ := b
    simp only [List.cons.injEq, and_true] at h1 h2 h3
    obtain ⟨rfl, rfl, rfl, rfl, rfl, rfl⟩ := h1
    rw [h2, h3]
instance : DecidableEq MsgD := fun _ _ => decidable_of_iff _ MsgD.eq_iff.symm
def MsgD.zero : MsgD := ⟨0, 0, 0, 0, 0, 0, TxD.zero, BlkD.zero⟩
def VOk (k v : Int) : Prop := (v = -1 ∧ (k = 4 ∨ k = 5)) ∨ v = 0 ∨ NmOk v
instance (k v : Int) : Decidable (VOk k v) := by unfold VOk; infer_instance
def In (a b n : Int) : Prop := a ≤ n ∧ n ≤ b
instance (a b n : Int) : Decidable (In a b n) := by unfold In; infer_instance
namespace MsgD
def Right (d : MsgD) : Prop := In 0 6 d.fm ∧ In 0 6 d.kd ∧ (if d.kd = 0 then d.tx.Right else d.tx = TxD.zero) ∧ (if d.kd = 1 then d.bk.Right else d.bk = BlkD.zero) ∧ (if 3 ≤ d.kd then In 0 1000 d.ix else d.ix = 0) ∧
  (if 3 ≤ d.kd ∧ d.kd ≤ 5 then In 0 1000 d.vw else d.vw = 0) ∧ (if 2 ≤ d.kd then VOk d.kd d.vl else d.vl = 0) ∧ (if d.kd = 3 then -1 ≤ d.pr ∧ d.pr < d.vw else d.pr = 0)
instance (d : MsgD) : Decidable d.Right := by unfold Right; infer_instance
def nums (d : MsgD) : List Int := [d.kd, d.fm, d.ix, d.vw, d.vl, d.pr]
def more (d : MsgD) : List Int := if d.kd = 0 then d.tx.nums else if d.kd = 1 then d.bk.nums else []
def body (d : MsgD) : List Nat := nuL (d.nums ++ d.more)
def mark (d : MsgD) : BitVec 64 := markB (keyB d.fm) d.body
def bytes (d : MsgD) : List Nat := numL d.mark.toNat ++ d.body
theorem nm_le {n : Int} (h : NmOk n) : 0 ≤ n ∧ n ≤ 268435455 := by obtain ⟨h1, h2, h3, h4⟩ := h; omega
theorem vOk_le {k n : Int} (h : VOk k n) : -1 ≤ n ∧ n ≤ 268435455 := by
  rcases h with h | h | h
  · omega
  · omega
  · have := nm_le h; omega
theorem Right.bound {d : MsgD} (h : d.Right) : In 0 6 d.kd ∧ In 0 6 d.fm ∧ In 0 1000 d.ix ∧ In 0 1000 d.vw ∧ (-1 ≤ d.vl ∧ d.vl ≤ 268435455) ∧ (-1 ≤ d.pr ∧ d.pr ≤ 1000) := by
  obtain ⟨h1, h2, _, _, h5, h6, h7, h8⟩ := h
  have a5 : In 0 1000 d.ix := by
    split at h5
    · exact h5
    · rw [h5]; decide
  have a6 : In 0 1000 d.vw := by
    split at h6
    · exact h6
    · rw [h6]; decide
  have a7 : -1 ≤ d.vl ∧ d.vl ≤ 268435455 := by
    split at h7
    · exact vOk_le h7
    · omega
  refine ⟨h2, h1, a5, a6, a7, ?_⟩
  unfold In at a6
  split at h8 <;> omega
theorem Right.rdb6 {d : MsgD} (h : d.Right) : Rdb d.nums := by
  obtain ⟨h1, h2, h3, h4, h5, h6⟩ := h.bound
  unfold In at *
  intro x hx
  simp only [nums, List.mem_cons, List.not_mem_nil, or_false] at hx
  rcases hx with rfl | rfl | rfl | rfl | rfl | rfl <;> omega
theorem Right.rdbMore {d : MsgD} (h : d.Right) : Rdb d.more := by
  obtain ⟨_, _, h3, h4, _⟩ := h
  unfold more
  split
  · rename_i hk; rw [if_pos hk] at h3; exact h3.rdb
  · split
    · rename_i hk; rw [if_pos hk] at h4; exact h4.rdb
    · intro x hx; simp at hx
theorem Right.rdb {d : MsgD} (h : d.Right) : Rdb (d.nums ++ d.more) := fun x hx => by
  rcases List.mem_append.1 hx with hx | hx
  · exact h.rdb6 x hx
  · exact h.rdbMore x hx
theorem mark_w64 (d : MsgD) : W64 d.mark.toNat := d.mark.isLt
theorem all_inj {a b : MsgD} (ha : a.Right) (hb : b.Right) (h : a.nums ++ a.more = b.nums ++ b.more) : a = b := by
  obtain ⟨_, _, a3, a4, _⟩ := ha
  obtain ⟨_, _, b3, b4, _⟩ := hb
  obtain ⟨k, f, i, v, x, p, t, y⟩ := a
  obtain ⟨k', f', i', v', x', p', t', y'⟩ := b
  simp only [nums, List.cons_append, List.nil_append, List.cons.injEq] at h
  obtain ⟨rfl, rfl, rfl, rfl, rfl, rfl, h⟩ := h
  simp only [more] at h a3 a4 b3 b4
  by_cases h0 : k = 0
  · have h1 : k ≠ 1 := by omega
    rw [if_neg h1] at a4 b4
    rw [if_pos h0, if_pos h0] at h
    simp only [TxD.nums, List.cons.injEq, and_true] at h
    obtain ⟨e1, e2⟩ := h
    cases t; cases t'
    simp only at e1 e2
    rw [e1, e2, a4, b4]
  · rw [if_neg h0] at a3 b3
    rw [if_neg h0, if_neg h0] at h
    by_cases h1 : k = 1
    · rw [if_pos h1, if_pos h1] at h
      rw [BlkD.nums_inj h, a3, b3]
    · rw [if_neg h1] at a4 b4
      rw [a3, b3, a4, b4]
theorem body_inj {a b : MsgD} (ha : a.Right) (hb : b.Right) (h : a.body = b.body) : a = b := all_inj ha hb (nuL_inj ha.rdb hb.rdb h)
theorem body_of_bytes {a b : MsgD} (h : a.bytes = b.bytes) : a.body = b.body := by
  have h1 := congrArg rdRest h
  unfold bytes at h1
  rwa [rdRest_app a.mark_w64, rdRest_app b.mark_w64] at h1
theorem bytes_inj {a b : MsgD} (ha : a.Right) (hb : b.Right) : a.bytes = b.bytes ↔ a = b := ⟨fun h => body_inj ha hb (body_of_bytes h), fun h => by rw [h]⟩
end MsgD
def IsMsg (b : List Nat) (x : MsgD) : Prop := x.Right ∧ b = x.bytes
theorem IsMsg.one {b : List Nat} {x y : MsgD} (h : IsMsg b x) (k : IsMsg b y) : x = y := (MsgD.bytes_inj h.1 k.1).1 (h.2.symm.trans k.2)
def lE (s : List Nat) : Nat := if s = [] then 0 else 121
def frB (b : List Nat) : MsgD × Nat := match rns 6 b with
  | some ([k, f, i, v, x, p], s) => if k = 0 then (⟨k, f, i, v, x, p, tOr (rdTx s), BlkD.zero⟩, oE (rdTx s)) else if k = 1 then (⟨k, f, i, v, x, p, TxD.zero, bOr (rdBlk s)⟩, obE (rdBlk s)) else (⟨k, f, i, v, x, p, TxD.zero, BlkD.zero⟩, lE s)
  | _ => (MsgD.zero, 11)
def MarkOk (b : List Nat) : Prop := markB (keyB (frB (rdRest b)).1.fm) (rdRest b) = BitVec.ofNat 64 (rd b).1
instance (b : List Nat) : Decidable (MarkOk b) := by unfold MarkOk; infer_instance
end Go.Proofs.YtajkjiegcmpjaaaGreat
namespace Go.Proofs.YtajkjiegcmpjaaaGreat
set_option maxRecDepth 100000
open Go.RowKit Go.ChangeShapes Go.WideShapes Go.ChangeAt
def mRow (d : MsgD) (u : Value) : List Value := [.int .i64 d.kd, .int .i64 d.fm, .int .i64 d.ix, .int .i64 d.vw, .int .i64 d.vl, .int .i64 d.pr, .int .i64 d.tx.id, .int .i64 d.tx.fee, .int .i64 d.bk.slot, .int .i64 d.bk.miner, .int .i64 d.bk.var, .int .i64 d.bk.parent, u]
def bRw (d : BlkD) (u : Value) : List Value := [.int .i64 d.slot, .int .i64 d.miner, .int .i64 d.var, .int .i64 d.parent, u]
def tRw (d : TxD) : List Value := [.int .i64 d.id, .int .i64 d.fee]
def mZero : List Value := [.int .i64 0, .int .i64 0, .int .i64 0, .int .i64 0, .int .i64 0, .int .i64 0, .int .i64 0, .int .i64 0, .int .i64 0, .int .i64 0, .int .i64 0, .int .i64 0, .slice none 0 0]
structure MsgD.Raw (d : MsgD) : Prop where
  kd : I64 d.kd
  fm : I64 d.fm
  ix : I64 d.ix
  vw : I64 d.vw
  vl : I64 d.vl
  pr : I64 d.pr
  tx : d.tx.Raw
  bk : d.bk.Raw
  few : d.bk.txs.length * 16 ≤ 140737488355328
instance : Inhabited MsgD := ⟨MsgD.zero⟩
def MsgR (w : World) (row : List Value) (d : MsgD) : Prop := (∃ u, row = mRow d u ∧ Recs 2 TxR w u d.bk.txs) ∧ d.Raw
theorem MsgR.stays : Stays MsgR := fun _ _ _ _ ⟨⟨u, h1, h2⟩, h4⟩ he => ⟨⟨u, h1, h2.ext TxR.stays he⟩, h4⟩
theorem m_one {d : MsgD} {u : Value} (h : u.oneCell' = true) : ∀ x ∈ mRow d u, x.oneCell' = true := by
  intro x hx
  simp only [mRow, List.mem_cons, List.not_mem_nil, or_false] at hx
  rcases hx with rfl | rfl | rfl | rfl | rfl | rfl | rfl | rfl | rfl | rfl | rfl | rfl | rfl
  all_goals first | rfl | assumption
theorem mself_at {cs : List Value} : ∀ (j : Nat) (x : Value), cs[j]? = some x → cs[0 + j]? = some x := fun j x h => by rw [Nat.zero_add]; exact h
theorem mtx_at (d : MsgD) (u : Value) : ∀ (j : Nat) (x : Value), (tRw d.tx)[j]? = some x → (mRow d u)[6 + j]? = some x := fun j x h => by
  match j, h with
  | 0, h => exact h
  | 1, h => exact h
  | j + 2, h => simp [tRw] at h
theorem mbk_at (d : MsgD) (u : Value) : ∀ (j : Nat) (x : Value), (bRw d.bk u)[j]? = some x → (mRow d u)[8 + j]? = some x := fun j x h => by
  match j, h with
  | 0, h => exact h
  | 1, h => exact h
  | 2, h => exact h
  | 3, h => exact h
  | 4, h => exact h
  | j + 5, h => simp [bRw] at h
theorem Tryz.stMsg : StN Tryz.prog 42 13 mZero := StN.of (by kernel_rfl) (by kernel_rfl) rfl
theorem Tryz.stBlkM : StN Tryz.prog 40 5 [.int .i64 0, .int .i64 0, .int .i64 0, .int .i64 0, .slice none 0 0] := StN.of (by kernel_rfl) (by kernel_rfl) rfl
theorem Tryz.stTxM : StN Tryz.prog 37 2 [.int .i64 0, .int .i64 0] := StN.of (by kernel_rfl) (by kernel_rfl) rfl
section
variable {H : Type} {enc : TypeId × Value → H} {W : World}
theorem rd_BlkF {fuel : Nat} {cs : List Value} {y : DataW H × List MemPlace} (hlen : cs.length = 5) (hy : DataW.trod enc Tryz.prog W 0 (fun _ => true) true fuel 40 cs = some y) (hw : Fits Tryz.prog 40 y.1) : ∃ d, BlkR W cs d ∧ d.txs.length * 16 ≤ 140737488355328 := by
  obtain ⟨d, hd⟩ := rd_Blk hlen hy hw
  refine ⟨d, hd, ?_⟩
  obtain ⟨xs, m, _, rfl, _, hxl, hf⟩ := DataW.trod_struct Tryz.underlying40 hy
  obtain ⟨⟨u4, rfl, hr⟩, _⟩ := hd
  match xs, hxl with
  | [y0, y1, y2, y3, y4], _ =>
    have k4 : DataW.trod enc Tryz.prog W 0 (fun _ => true) true m 38 [u4] = some y4 := hf 4 _ rfl
    simp only [List.map_cons, List.map_nil] at hw
    obtain ⟨l4, g4, b4⟩ := rd_recs (d := y4.1) (pl := y4.2) (n := 2) (R := TxR) Tryz.underlying38 (by kernel_rfl) (fun fuel cs y hlen hy hw => rd_Tx hlen hy hw) k4 (hw.part Tryz.underlying40 (j := 4) rfl rfl)
    rw [show Tryz.prog.bytesOf 37 = 16 from by kernel_rfl] at b4
    have e : l4.length = d.txs.length := by
      obtain ⟨r1, ⟨A1, c1, e1, _⟩, q1, _⟩ := g4
      obtain ⟨r2, ⟨A2, c2, e2, _⟩, q2, _⟩ := hr
      rw [e1] at e2
      injection e2 with _ e2 _
      omega
    have : reachBytes ≤ 140737488355328 := by decide
    omega
theorem rd_Msg {fuel : Nat} {cs : List Value} {y : DataW H × List MemPlace} (hlen : cs.length = 13) (hy : DataW.trod enc Tryz.prog W 0 (fun _ => true) true fuel 42 cs = some y) (hw : Fits Tryz.prog 42 y.1) : ∃ d, MsgR W cs d := by
  obtain ⟨xs, m, _, rfl, _, hxl, hf⟩ := DataW.trod_struct Tryz.underlying42 hy
  match xs, hxl, cs, hlen with
  | [y0, y1, y2, y3, y4, y5, y6, y7], _, [c0, c1, c2, c3, c4, c5, c6, c7, c8, c9, c10, c11, c12], _ =>
    have k0 : DataW.trod enc Tryz.prog W 0 (fun _ => true) true m 3 [c0] = some y0 := hf 0 _ rfl
    have k1 : DataW.trod enc Tryz.prog W 0 (fun _ => true) true m 3 [c1] = some y1 := hf 1 _ rfl
    have k2 : DataW.trod enc Tryz.prog W 0 (fun _ => true) true m 3 [c2] = some y2 := hf 2 _ rfl
    have k3 : DataW.trod enc Tryz.prog W 0 (fun _ => true) true m 3 [c3] = some y3 := hf 3 _ rfl
    have k4 : DataW.trod enc Tryz.prog W 0 (fun _ => true) true m 3 [c4] = some y4 := hf 4 _ rfl
    have k5 : DataW.trod enc Tryz.prog W 0 (fun _ => true) true m 3 [c5] = some y5 := hf 5 _ rfl
    have k6 : DataW.trod enc Tryz.prog W 0 (fun _ => true) true m 37 [c6, c7] = some y6 := hf 6 _ rfl
    have k7 : DataW.trod enc Tryz.prog W 0 (fun _ => true) true m 40 [c8, c9, c10, c11, c12] = some y7 := hf 7 _ rfl
    simp only [List.map_cons, List.map_nil] at hw
    obtain ⟨a0, e0, _, b0⟩ := DataW.trod_int Tryz.underlying3 k0
    obtain ⟨a1, e1, _, b1⟩ := DataW.trod_int Tryz.underlying3 k1
    obtain ⟨a2, e2, _, b2⟩ := DataW.trod_int Tryz.underlying3 k2
    obtain ⟨a3, e3, _, b3⟩ := DataW.trod_int Tryz.underlying3 k3
    obtain ⟨a4, e4, _, b4⟩ := DataW.trod_int Tryz.underlying3 k4
    obtain ⟨a5, e5, _, b5⟩ := DataW.trod_int Tryz.underlying3 k5
    injection e0 with e0 _
    injection e1 with e1 _
    injection e2 with e2 _
    injection e3 with e3 _
    injection e4 with e4 _
    injection e5 with e5 _
    subst e0 e1 e2 e3 e4 e5
    obtain ⟨t, ht, hraw⟩ := rd_Tx (y := y6) rfl k6 (hw.part Tryz.underlying42 (j := 6) rfl rfl)
    obtain ⟨b, ⟨⟨u, hb, hr⟩, hbr⟩, hfew⟩ := rd_BlkF (y := y7) rfl k7 (hw.part Tryz.underlying42 (j := 7) rfl rfl)
    injection ht with e6 ht
    injection ht with e7 _
    injection hb with e8 hb
    injection hb with e9 hb
    injection hb with e10 hb
    injection hb with e11 hb
    injection hb with e12 _
    subst e6 e7 e8 e9 e10 e11 e12
    exact ⟨⟨a0, a1, a2, a3, a4, a5, t, b⟩, ⟨_, rfl, hr⟩, ⟨i64_wf b0, i64_wf b1, i64_wf b2, i64_wf b3, i64_wf b4, i64_wf b5, hraw, hbr, hfew⟩⟩
theorem arg_Msg {base : Nat} {v : Value} {d : DataW H} {ps : List MemPlace} {ts : List TypeId} {ds : List (DataW H)} (hsz : (DataW.weightsEach Tryz.prog ts ds).all (· ≤ reachBytes) = true) {j : Nat} (ht : ts[j]? = some 42) (hd : ds[j]? = some d)
    (hval : Value.okWide Tryz.prog W .any base 42 v) (h : DataW.Trod enc Tryz.prog W 0 (fun _ => true) true 42 v d ps) : ∃ (row : List Value) (x : MsgD), v = .agg row.toArray ∧ row.length = 13 ∧ MsgR W row x := by
  have hu := Tryz.underlying42
  simp only [Value.okWide, hu] at hval
  obtain ⟨cs, rfl, hcs, _⟩ := hval
  have hc : Tryz.prog.cellsOf 42 = 13 := by kernel_rfl
  rw [hc] at hcs
  obtain ⟨fuel, hf⟩ := h
  obtain ⟨x, hx⟩ := rd_Msg (cs := cs.toList) (by simpa using hcs) hf (fits_arg hsz ht hd)
  exact ⟨cs.toList, x, by simp, by simpa using hcs, hx⟩
end
structure AgT (P : Program) (t : TypeId) (n : Nat) (zs : List Value) : Prop where
  ag : ∀ w, (isAgg t).run P w = .ok true w
  info : ∃ i : TypeInfo, P.info? t = some i ∧ i.zero = some (.agg zs.toArray) ∧ i.size = n
  zl : zs.length = n
theorem AgT.of {P : Program} {t : TypeId} {n : Nat} {zs : List Value} (h : (match P.underlying t with | some (.struct _) => true | some (.array _ _) => true | _ => false) = true) (hz : (P.info? t).map (fun i => (i.zero, i.size)) = some (some (.agg zs.toArray), n)) (hl : zs.length = n) : AgT P t n zs := by
  refine ⟨fun w => ?_, ?_, hl⟩
  · cases hu : P.underlying t with
    | none => rw [hu] at h; cases h
    | some u => rw [hu] at h; cases u <;> first | (cases h; done) | simp [isAgg, run_underlying hu]
  · cases hq : P.info? t with
    | none => rw [hq] at hz; simp at hz
    | some i => rw [hq] at hz; simp at hz; exact ⟨i, rfl, hz.1, hz.2⟩
theorem Tryz.agMsg : AgT Tryz.prog 42 13 mZero := AgT.of (by kernel_rfl) (by kernel_rfl) rfl
theorem Tryz.ag6 : AgT Tryz.prog 138 6 [.int .i64 0, .int .i64 0, .int .i64 0, .int .i64 0, .int .i64 0, .int .i64 0] := AgT.of (by kernel_rfl) (by kernel_rfl) rfl
section
variable {P : Program} {ops : Array Oper} {rest : List Oper} {o : Oper} {a : Act} {Q : Exit → Act → World → Prop} {w : World} {t : TypeId} {n : Nat} {zs : List Value}
theorem run_loadVar_ag (E : AgT P t n zs) {g : Nat} {cs : List Value} (h : Fs w g cs) (hl : cs.length = n) : (loadVar t ⟨g, 0, none⟩).run P w = .ok (.agg cs.toArray) w := by
  obtain ⟨i0, hi, _, hs⟩ := E.info
  have hc := run_loadCells_list (P := P) w ⟨g, 0, none⟩ cs (fun j u hj => by rw [add_zero_off]; exact h.cell hj)
  rw [hl] at hc
  simp [loadVar, E.ag, sizeOf, typeInfo, hi, hs, hc]
theorem ag_one (E : AgT P t n zs) {fn : Func} {s g : Nat} {cs : List Value} {tmps : Array Value} (hrs : fn.results = #[.cell s t]) (hp : tmps.getD s undef = .pointer (some ⟨g, 0, none⟩)) (h : Fs w g cs) (hl : cs.length = n) :
    (results fn tmps).run P w = .ok (.agg cs.toArray) w := by
  have hr := run_loadVar_ag E h hl
  rw [Array.getD_eq_getD_getElem?] at hp
  simp only [results, hrs]
  simp [hp, asAddr, hr]
theorem w_agalloc (E : AgT P t n zs) (hgd : o.guard = none) (ho : o.op = .alloc t)
    (k : ∀ g w', w.heap.size ≤ g → Ext w w' → Fs w' g zs → wpList P ops Q rest (a.put o.dst (.pointer (some ⟨g, 0, none⟩))) w') : wpList P ops Q (o :: rest) a w := by
  obtain ⟨i0, hi, hz, hs⟩ := E.info
  refine wpList_plain hgd fun K hK => ?_
  have hk := hK _ _ (k _ _ (Nat.le_refl _) ((Ext.refl w).alloc (.cells zs.toArray t)) (by simpa using Fs.alloc w zs.toArray t))
  unfold Oper.wp execOp
  simp [ho, Instr.alloc, newVar, newRow, zeroValue, typeInfo, hi, hz, Value.cells]
  exact hk
theorem setCells_at {w : World} {g off : Nat} {cs us : List Value} (h : Fs w g cs) (hb : off + us.length ≤ cs.length) : Fs (w.setCells g off us) g (cs.take off ++ us ++ cs.drop (off + us.length)) := by
  have e : cs = cs.take off ++ (cs.drop off).take us.length ++ cs.drop (off + us.length) := by
    rw [List.append_assoc, ← List.drop_drop, List.take_append_drop, List.take_append_drop]
  exact setCells_fs us off (pre := cs.take off) (post := cs.drop (off + us.length)) (old := (cs.drop off).take us.length) (by rw [← e]; exact h) (by rw [List.length_take]; omega) (by rw [List.length_take, List.length_drop]; omega)
theorem w_agstore (E : AgT P t n zs) (x y : Operand) {g off : Nat} {cs us : List Value} (hgd : o.guard = none) (ho : o.op = .store t x y) (hd : o.dst = none) (hx : a.eval x = .pointer (some ⟨g, off, none⟩)) (hy : a.eval y = .agg us.toArray) (h : Fs w g cs) (hl' : us.length = n) (hb : off + n ≤ cs.length) (h1 : ∀ u ∈ us, u.oneCell' = true)
    (k : ∀ w', Mod (fun k => k = g) w w' → Fs w' g (cs.take off ++ us ++ cs.drop (off + us.length)) → wpList P ops Q rest a w') : wpList P ops Q (o :: rest) a w := by
  obtain ⟨i0, hi, _, hs⟩ := E.info
  refine wpList_plain hgd fun K hK => ?_
  have hr := run_storeCells_cells (P := P) g off us 0 w (fun j hj => by
    have hj' : off + j < cs.length := by omega
    have := h.cell (List.getElem?_eq_getElem hj')
    simp [this]) (fun j _ => by simpa using h.frozen (off + j)) h1
  have hk := hK _ _ (k _ (setCells_mod us off w g) (setCells_at h (by omega)))
  unfold Oper.wp execOp
  simp only [ho, hx, hy, Sem.run_bind, Instr.storeAt, storeVar, Instr.sureAddr, Sem.run_pure, Result.andThen_ok, sizeOf, typeInfo]
  simp [hi, hs, hl', Value.cells]
  simp at hr
  simp [hr, Oper.upon, hd, Act.put]
  exact hk
theorem w_agput (E : AgT P t n zs) (x y : Operand) {g : Nat} {cs us : List Value} (hgd : o.guard = none) (ho : o.op = .store t x y) (hd : o.dst = none) (hx : a.eval x = .pointer (some ⟨g, 0, none⟩)) (hy : a.eval y = .agg us.toArray) (h : Fs w g cs) (hl : cs.length = n) (hl' : us.length = n) (h1 : ∀ u ∈ us, u.oneCell' = true)
    (k : ∀ w', Mod (fun k => k = g) w w' → Fs w' g us → wpList P ops Q rest a w') : wpList P ops Q (o :: rest) a w :=
  w_agstore E x y hgd ho hd hx hy h hl' (by omega) h1 fun w' hm hf => k w' hm (by
    rw [List.take_zero, List.nil_append, List.drop_eq_nil_of_le (by omega), List.append_nil] at hf; exact hf)
end
def mOff : Nat → Nat
  | 7 => 8
  | n => n
theorem m_field : ∀ i, i < 8 → fieldB Tryz.prog 42 i (mOff i) = true := by
  intro i hi
  match i, hi with
  | 0, _ => exact (by kernel_rfl : fieldB Tryz.prog 42 0 0 = true)
  | 1, _ => exact (by kernel_rfl : fieldB Tryz.prog 42 1 1 = true)
  | 2, _ => exact (by kernel_rfl : fieldB Tryz.prog 42 2 2 = true)
  | 3, _ => exact (by kernel_rfl : fieldB Tryz.prog 42 3 3 = true)
  | 4, _ => exact (by kernel_rfl : fieldB Tryz.prog 42 4 4 = true)
  | 5, _ => exact (by kernel_rfl : fieldB Tryz.prog 42 5 5 = true)
  | 6, _ => exact (by kernel_rfl : fieldB Tryz.prog 42 6 6 = true)
  | 7, _ => exact (by kernel_rfl : fieldB Tryz.prog 42 7 8 = true)
section
variable {ops : Array Oper} {rest : List Oper} {o : Oper} {a : Act} {Q : Exit → Act → World → Prop} {w : World}
theorem runs_mfield {ρ : Operand → Value} (x : Operand) (g i : Nat) (ho : o.op = .fieldAddr 42 x i) (hx : ρ x = .pointer (some ⟨g, 0, none⟩)) (hi : i < 8) : Runs Tryz.prog o ρ w (.pointer (some ⟨g, mOff i, none⟩)) := runs_fieldN (m_field i hi) x g ho hx
theorem w_mfield (x : Operand) (g i : Nat) (hgd : o.guard = none) (ho : o.op = .fieldAddr 42 x i) (hx : a.eval x = .pointer (some ⟨g, 0, none⟩)) (hi : i < 8)
    (k : wpList Tryz.prog ops Q rest (a.put o.dst (.pointer (some ⟨g, mOff i, none⟩))) w) : wpList Tryz.prog ops Q (o :: rest) a w := wpList_runs hgd (runs_mfield x g i ho hx hi) k
theorem run_mbuild (ps : List (Nat × Value)) (arr : Array (Nat × Value)) (harr : arr.toList = ps) (hone : ∀ p ∈ ps, p.1 < 6 ∧ p.2.cells = #[p.2]) (us : List Value) (hus : ps.foldl (fun acc p => acc.set p.1 p.2) mZero = us) : (Instr.build 42 arr).run Tryz.prog w = .ok (.agg us.toArray) w := by
  obtain ⟨i0, hi, hz, hs⟩ := Tryz.stMsg.info
  have hfill := fill_st ps mZero (fun i => [(0, 1), (1, 1), (2, 1), (3, 1), (4, 1), (5, 1), (6, 2), (8, 5)][i]?) fun p hp => by
    obtain ⟨h1, h2⟩ := hone p hp
    refine ⟨?_, by show p.1 < 13; omega, h2⟩
    obtain ⟨n, v⟩ := p
    simp only at h1
    match n, h1 with
    | 0, _ => rfl
    | 1, _ => rfl
    | 2, _ => rfl
    | 3, _ => rfl
    | 4, _ => rfl
    | 5, _ => rfl
  rw [hus] at hfill
  unfold Instr.build
  have hzv : (zeroValue 42).run Tryz.prog w = .ok (.agg mZero.toArray) w := by simp [zeroValue, typeInfo, hi, hz]
  rw [Sem.run_bind, hzv, Result.andThen_ok]
  dsimp only
  rw [Sem.run_bind, run_underlying Tryz.underlying42, Result.andThen_ok]
  simp only [Value.cells, harr]
  simp [Tryz.sizeOf3, Tryz.sizeOf37, Tryz.sizeOf40]
  rw [hfill]
  rfl
end
section
variable {P : Program} {ops : Array Oper} {a : Act} {w : World} {r : List Sp} {o : Oper} {t : TypeId} {n lo : Nat} {zs : List Value}
theorem op_agalloc (E : AgT P t n zs) (hle : lo ≤ w.heap.size) (hgd : o.guard = none) (ho : o.op = .alloc t) : opOk P ops a w r o [] (Sp.fs lo zs) := by
  intro σ w' hx hg
  rw [if_pos (wanted_none hgd _)]
  obtain ⟨i0, hi, hz, hs⟩ := E.info
  have hf : Fs (w'.alloc (.cells zs.toArray t)) w'.heap.size zs := by simpa using Fs.alloc w' zs.toArray t
  unfold Oper.wp execOp
  simp [ho, Instr.alloc, newVar, newRow, zeroValue, typeInfo, hi, hz, Value.cells]
  exact ⟨_, rfl, (Ext.refl _).alloc _, _, rfl, Nat.le_trans hle hx.size, hf⟩
end
end Go.Proofs.YtajkjiegcmpjaaaGreat
namespace Go.Proofs.YtajkjiegcmpjaaaGreat
set_option maxRecDepth 100000
open Go.RowKit Go.ChangeShapes Go.WideShapes Go.ChangeAt
theorem arg_ints {H : Type} {enc : TypeId × Value → H} {W : World} {base : Nat} {v : Value} {d : DataW H} {ps : List MemPlace} {ts : List TypeId} {ds : List (DataW H)} (hsz : (DataW.weightsEach Tryz.prog ts ds).all (· ≤ reachBytes) = true) {j : Nat} (ht : ts[j]? = some 22) (hd : ds[j]? = some d)
    (hval : Value.okWide Tryz.prog W .any base 22 v) (h : DataW.Trod enc Tryz.prog W 0 (fun _ => true) true 22 v d ps) : ∃ l : List Int, Ints W v l ∧ (∀ x ∈ l, -9223372036854775808 ≤ x ∧ x ≤ 9223372036854775807) ∧ l.length * 8 ≤ 140737488351232 := by
  obtain ⟨a0, len, cap, rfl⟩ := okWide_slice Tryz.underlying22 hval
  obtain ⟨fuel, hf⟩ := h
  rcases open_ints Tryz.underlying22 Tryz.underlying3 (by kernel_rfl) hf with ⟨h1, _⟩ | ⟨a, len', cap', zs, h1, _, hlc, hcm, hzl, hx, hc, hw⟩
  · simp only [Value.cells] at h1
    injection h1 with h1; injection h1 with e1 e2 e3
    subst e1 e2 e3
    exact ⟨[], Ints.nil W, by simp, by simp⟩
  · simp only [Value.cells] at h1
    injection h1 with h1; injection h1 with e1 e2 e3
    subst e1 e2 e3
    simp only [if_true] at hzl
    have hwn : ∀ n ∈ zs, -9223372036854775808 ≤ n ∧ n ≤ 9223372036854775807 := fun n hn => by
      have := hw n hn
      simp [Lit.wf, IntKind.min, IntKind.max, IntKind.signed, IntKind.bits] at this
      omega
    have hd2 : d = .slice (lits .i64 (zs.take len)) (lits .i64 (zs.drop len)) := by
      have := congrArg Prod.fst hx; simpa using this
    have hz2 := sized_slice hsz ht (by rw [hd, hd2]) Tryz.underlying22
    have hb5 : Tryz.prog.bytesOf 3 = 8 := by kernel_rfl
    have hreach : reachBytes = 140737488351232 := rfl
    rw [hb5, hreach] at hz2
    simp only [lits, List.length_map, List.length_take, List.length_drop] at hz2
    refine ⟨zs.take len, ?_, fun x hx' => hwn x (List.mem_of_mem_take hx'), by simp; omega⟩
    refine ⟨some a, cap, by simp [i64s]; omega, by simp [i64s]; omega, hcm, fun k u hk => ⟨a, rfl, ?_⟩⟩
    rw [i64s, List.getElem?_map, List.getElem?_take] at hk
    split at hk
    · rw [hc k (by omega)]
      have hkz : k < zs.length := by omega
      rw [List.getElem?_eq_getElem hkz] at hk
      simp at hk
      subst hk
      simp [List.getD, List.getElem?_eq_getElem hkz]
    · simp at hk
end Go.Proofs.YtajkjiegcmpjaaaGreat
