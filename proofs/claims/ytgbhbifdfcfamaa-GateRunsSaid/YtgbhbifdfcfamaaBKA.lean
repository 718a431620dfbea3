/- Blocks, their names and their bytes, as plain mathematics. No program. · The block of bytes, as plain mathematics over the list of bytes. No program. · A block, among a law's parameters. · The contracts of Right, Name, Slot, Miner of package block, and of the document's. · The contracts of Same, Copy and Bytes of package block, and of the document's; the chapter's example. · The contract of Copy of package block. -/
import Derived.Test.YtgbhbifdfcfamaaFM
import Derived.Test.YtgbhbifdfcfamaaTXB
import Derived.Test.YtgbhbifdfcfamaaFB
namespace Go.Proofs.Ytgbhbifdfcfamaa
set_option maxRecDepth 100000

/-- The slot, the miner, the variant of a name. -/
structure NmOk (n : Int) : Prop where
  pos : 0 ≤ n
  s1 : 1 ≤ n / 65536
  s2 : n / 65536 ≤ 4095
  m : n / 256 % 256 ≤ 6
instance (n : Int) : Decidable (NmOk n) := decidable_of_iff (0 ≤ n ∧ 1 ≤ n / 65536 ∧ n / 65536 ≤ 4095 ∧ n / 256 % 256 ≤ 6) ⟨fun ⟨a, b, c, d⟩ => ⟨a, b, c, d⟩, fun ⟨a, b, c, d⟩ => ⟨a, b, c, d⟩⟩
structure BlkD where
  slot : Int
  miner : Int
  var : Int
  parent : Int
  txs : List TxD
namespace BlkD
structure Right (b : BlkD) : Prop where
  s : 1 ≤ b.slot ∧ b.slot ≤ 4095
  m : 0 ≤ b.miner ∧ b.miner ≤ 6
  v : 0 ≤ b.var ∧ b.var ≤ 255
  p : b.parent = 0 ∨ (NmOk b.parent ∧ b.parent / 65536 < b.slot)
  t : LsOk b.txs
instance (b : BlkD) : Decidable b.Right := decidable_of_iff ((1 ≤ b.slot ∧ b.slot ≤ 4095) ∧ (0 ≤ b.miner ∧ b.miner ≤ 6) ∧ (0 ≤ b.var ∧ b.var ≤ 255) ∧ (b.parent = 0 ∨ (NmOk b.parent ∧ b.parent / 65536 < b.slot)) ∧ LsOk b.txs)
  ⟨fun ⟨a, b, c, d, e⟩ => ⟨a, b, c, d, e⟩, fun ⟨a, b, c, d, e⟩ => ⟨a, b, c, d, e⟩⟩
def nm (b : BlkD) : Int := (b.slot * 256 + b.miner) * 256 + b.var
def name (b : BlkD) : Int := if b.Right then b.nm else 0
theorem Right.parts {b : BlkD} (h : b.Right) : b.nm / 65536 = b.slot ∧ b.nm / 256 % 256 = b.miner ∧ b.nm % 256 = b.var ∧ NmOk b.nm := by
  obtain ⟨⟨h1, h2⟩, ⟨h3, h4⟩, ⟨h5, h6⟩, _, _⟩ := h
  unfold nm
  exact ⟨by omega, by omega, by omega, ⟨by omega, by omega, by omega, by omega⟩⟩
/-- Two that are right have one name just if they have one slot, one miner, one variant. -/
theorem nm_inj {a b : BlkD} (ha : a.Right) (hb : b.Right) : a.nm = b.nm ↔ a.slot = b.slot ∧ a.miner = b.miner ∧ a.var = b.var := by
  constructor
  · intro h
    have h1 := ha.parts; have h2 := hb.parts
    rw [h] at h1
    exact ⟨h1.1.symm.trans h2.1, h1.2.1.symm.trans h2.2.1, h1.2.2.1.symm.trans h2.2.2.1⟩
  · rintro ⟨h1, h2, h3⟩
    unfold nm; rw [h1, h2, h3]
theorem Right.parent_lt {b : BlkD} (h : b.Right) : b.parent < b.nm := by
  obtain ⟨⟨h1, h2⟩, ⟨h3, h4⟩, ⟨h5, h6⟩, h7, _⟩ := h
  unfold nm
  rcases h7 with h7 | ⟨h7, h8⟩
  · omega
  · have := h7.pos; omega
def nums (b : BlkD) : List Int := [b.slot, b.miner, b.var, b.parent] ++ lsNums b.txs
def bytes (b : BlkD) : List Nat := nuL b.nums
theorem bytes_eq (b : BlkD) : b.bytes = nuL [b.slot, b.miner, b.var, b.parent] ++ lsB b.txs := nuL_app _ _
theorem Right.rdb {b : BlkD} (h : b.Right) : Rdb b.nums := by
  obtain ⟨⟨h1, h2⟩, ⟨h3, h4⟩, ⟨h5, h6⟩, h7, h8⟩ := h
  intro x hx
  rcases List.mem_append.1 hx with hx | hx
  · simp at hx
    rcases hx with rfl | rfl | rfl | rfl
    · omega
    · omega
    · omega
    · rcases h7 with h7 | ⟨⟨h9, h10, h11, _⟩, _⟩ <;> omega
  · exact h8.rdb x hx
theorem nums_len (b : BlkD) : b.nums.length = 5 + 2 * b.txs.length := by simp [nums, lsNums, txNums_len]; omega
theorem nums_inj {a b : BlkD} (h : a.nums = b.nums) : a = b := by
  cases a; cases b
  simp only [nums, List.cons_append, List.nil_append, List.cons.injEq, lsNums] at h
  obtain ⟨rfl, rfl, rfl, rfl, _, h⟩ := h
  rw [txNums_inj h]
/-- How many numbers there are is said by the fifth. -/
theorem nums_say {a b : BlkD} {s : List Int} (h : a.nums = b.nums ++ s) : s = [] := by
  have h1 := congrArg List.length h
  rw [List.length_append, nums_len, nums_len] at h1
  have h2 : a.nums[4]? = (b.nums ++ s)[4]? := by rw [h]
  rw [List.getElem?_append_left (by rw [nums_len]; omega)] at h2
  have h3 : a.nums[4]? = some (a.txs.length : Int) := rfl
  have h4 : b.nums[4]? = some (b.txs.length : Int) := rfl
  rw [h3, h4] at h2
  injection h2 with h2
  exact List.eq_nil_of_length_eq_zero (by omega)
end BlkD
/-- The bytes b are the block x's. -/
def IsBlk (b : List Nat) (x : BlkD) : Prop := x.Right ∧ b = x.bytes
theorem IsBlk.one {b : List Nat} {x y : BlkD} (h : IsBlk b x) (k : IsBlk b y) : x = y := BlkD.nums_inj (nuL_inj h.1.rdb k.1.rdb (h.2.symm.trans k.2))
/-- More numbers than there are can't be read. -/
theorem rns_nil : ∀ k, 0 < k → rns k [] = none
  | 0, h => by omega
  | k + 1, _ => rns_none (.inl (by
    cases hr : (rd []).2 with
    | zero => rfl
    | succ n =>
      exfalso
      obtain ⟨hp, hl, _⟩ := rd_some (l := []) (by simp) (by omega)
      have h1 := hp.length_le
      have h2 := numL_pos (rd []).1
      rw [List.length_nil] at h1
      omega))
theorem rns_more : ∀ (xs : List Int), Rdb xs → ∀ k, xs.length < k → rns k (nuL xs) = none
  | [], _, k, h => by simp [nuL]; exact rns_nil k (by simpa using h)
  | x :: xs, hx, 0, h => by simp at h
  | x :: xs, hx, k + 1, h => by
    have h0 := hx x (List.mem_cons_self ..)
    have hw : W64 (x + 1).toNat := by unfold W64; omega
    rw [nuL, rns_step (rd2_ne hw _) (by rw [rd_app hw]; simp; omega), rdRest_app hw, rns_more xs (fun y hy => hx y (List.mem_cons_of_mem _ hy)) k (by simp at h; omega)]
    rfl
/-- Numbers' bytes that other numbers' bytes begin with: those numbers begin with these. -/
theorem nuL_pre {xs ys : List Int} (hx : Rdb xs) (hy : Rdb ys) {s : List Nat} (h : nuL xs = nuL ys ++ s) : ∃ zs, xs = ys ++ zs ∧ s = nuL zs := by
  have e := rns_yes hy s
  rw [← h] at e
  rcases Nat.lt_or_ge xs.length ys.length with hl | hl
  · rw [rns_more xs hx _ hl] at e; cases e
  · have e2 := rns_few (xs := xs.take ys.length) (ys := xs.drop ys.length) (by rw [List.take_append_drop]; exact hx) []
    rw [List.take_append_drop, List.append_nil, List.append_nil, List.length_take, Nat.min_eq_left hl, e] at e2
    simp only [Option.some.injEq, Prod.mk.injEq] at e2
    refine ⟨xs.drop ys.length, ?_, e2.2⟩
    have h3 := List.take_append_drop ys.length xs
    rw [← e2.1] at h3; exact h3.symm
/-- A block's bytes, cut off anywhere, are no block's. -/
theorem blk_cut {x : BlkD} (hx : x.Right) {c : Nat} (hc : c < x.bytes.length) (y : BlkD) : ¬ IsBlk (x.bytes.take c) y := fun ⟨hy, he⟩ => by
  obtain ⟨zs, h1, h2⟩ := nuL_pre hx.rdb hy.rdb (s := x.bytes.drop c) (by
    show x.bytes = y.bytes ++ _
    rw [← he, List.take_append_drop])
  have h3 := BlkD.nums_say h1
  rw [h3] at h2
  have := congrArg List.length h2
  rw [List.length_drop] at this
  simp [nuL] at this; omega
/-- With more behind they are none either. -/
theorem blk_more {x : BlkD} (hx : x.Right) {s : List Nat} (hs : s ≠ []) (y : BlkD) : ¬ IsBlk (x.bytes ++ s) y := fun ⟨hy, he⟩ => by
  obtain ⟨zs, h1, h2⟩ := nuL_pre hy.rdb hx.rdb (s := s) he.symm
  have h3 := BlkD.nums_say h1
  rw [h3] at h2
  exact hs (by simpa [nuL] using h2)
/-- The block of bytes, as it is read: four numbers, a list's bytes. -/
theorem isBlk_of {b : List Nat} (hb : ∀ x ∈ b, x < 256) {p q r s : Int} {rest : List Nat} (h : rns 4 b = some ([p, q, r, s], rest)) {l : List TxD} (hl : IsLs rest l) (hr : (⟨p, q, r, s, l⟩ : BlkD).Right) : IsBlk b ⟨p, q, r, s, l⟩ := by
  obtain ⟨h1, _, _⟩ := rns_was 4 b _ _ hb h
  exact ⟨hr, by rw [BlkD.bytes_eq, h1, hl.2]⟩
theorem isBlk_rns {b : List Nat} {x : BlkD} (h : IsBlk b x) : rns 4 b = some ([x.slot, x.miner, x.var, x.parent], lsB x.txs) := by
  obtain ⟨hr, rfl⟩ := h
  have hd : Rdb [x.slot, x.miner, x.var, x.parent] := fun y hy => hr.rdb y (List.mem_append_left _ hy)
  rw [BlkD.bytes_eq]
  exact rns_yes hd _
end Go.Proofs.Ytgbhbifdfcfamaa
namespace Go.Proofs.Ytgbhbifdfcfamaa
set_option maxRecDepth 100000

def BlkD.zero : BlkD := ⟨0, 0, 0, 0, []⟩
theorem BlkD.zero_no : ¬ BlkD.zero.Right := fun h => by have := h.s.1; simp [BlkD.zero] at this
/-- The block of bytes, if they are one's. -/
def rdBlk (b : List Nat) : Option BlkD := match rns 4 b with
  | some ([s, m, v, p], rest) => match rdLs rest with
    | some l => if (⟨s, m, v, p, l⟩ : BlkD).Right then some ⟨s, m, v, p, l⟩ else none
    | none => none
  | _ => none
section
variable {b rest : List Nat} {s m v p : Int} {l : List TxD}
theorem rdBlk_c1 (h : rns 4 b = none) : rdBlk b = none := by unfold rdBlk; rw [h]
theorem rdBlk_c2 (h : rns 4 b = some ([s, m, v, p], rest)) (hl : rdLs rest = none) : rdBlk b = none := by unfold rdBlk; rw [h]; simp only; rw [hl]
theorem rdBlk_c3 (h : rns 4 b = some ([s, m, v, p], rest)) (hl : rdLs rest = some l) (hr : ¬ (⟨s, m, v, p, l⟩ : BlkD).Right) : rdBlk b = none := by unfold rdBlk; rw [h]; simp only; rw [hl]; exact if_neg hr
theorem rdBlk_c4 (h : rns 4 b = some ([s, m, v, p], rest)) (hl : rdLs rest = some l) (hr : (⟨s, m, v, p, l⟩ : BlkD).Right) : rdBlk b = some ⟨s, m, v, p, l⟩ := by unfold rdBlk; rw [h]; simp only; rw [hl]; exact if_pos hr
end
theorem rdBlk_iff {b : List Nat} (hb : ∀ x ∈ b, x < 256) (x : BlkD) : rdBlk b = some x ↔ IsBlk b x := by
  constructor
  · intro h
    unfold rdBlk at h
    split at h
    · rename_i s m v p rest hr
      split at h
      · rename_i l hl
        split at h
        · rename_i hx
          cases h
          obtain ⟨h1, _, _⟩ := rns_was 4 b _ _ hb hr
          have hrest : ∀ y ∈ rest, y < 256 := fun y hy => hb y (by rw [h1]; exact List.mem_append_right _ hy)
          exact isBlk_of hb hr ((rdLs_iff hrest l).1 hl) hx
        · cases h
      · cases h
    · cases h
  · intro h
    have h1 := isBlk_rns h
    have h2 : rdLs (lsB x.txs) = some x.txs := (rdLs_iff (nuL_lt _) x.txs).2 ⟨h.1.t, rfl⟩
    exact rdBlk_c4 h1 h2 h.1
theorem rdBlk_none {b : List Nat} (hb : ∀ x ∈ b, x < 256) (h : ∀ x, ¬ IsBlk b x) : rdBlk b = none := by
  cases hr : rdBlk b with
  | none => rfl
  | some x => exact absurd ((rdBlk_iff hb x).1 hr) (h x)
/-- What is told of bytes that are none's. -/
def bOr (o : Option BlkD) : BlkD := match o with | some x => x | none => BlkD.zero
def bB (x : BlkD) : List Nat := if x.Right then x.bytes else []
def bE (x : BlkD) : Nat := if x.Right then 0 else 71
def obE (o : Option BlkD) : Nat := match o with | some _ => 0 | none => 71
/-- The slot and the miner of any number. -/
def nmS (n : Int) : Int := if NmOk n then n / 65536 else 0
def nmM (n : Int) : Int := if NmOk n then n / 256 % 256 else 0
theorem nmS_nm {x : BlkD} (h : x.Right) : nmS x.nm = x.slot := by rw [nmS, if_pos h.parts.2.2.2]; exact h.parts.1
theorem nmM_nm {x : BlkD} (h : x.Right) : nmM x.nm = x.miner := by rw [nmM, if_pos h.parts.2.2.2]; exact h.parts.2.1
theorem BlkD.bytes_len {x : BlkD} (h : x.Right) : x.bytes.length ≤ 110 := by
  have h1 := nuL_len x.nums fun y hy => by have := h.rdb y hy; omega
  have h2 := x.nums_len
  have h3 := h.t.len
  unfold BlkD.bytes; omega
theorem BlkD.bytes_lt (x : BlkD) : ∀ y ∈ x.bytes, y < 256 := nuL_lt _
/-- A child of a block: it can be just if its slot is greater. -/
theorem child_right {x : BlkD} (h : x.Right) (s : Int) : (⟨s, x.miner, 0, x.nm, []⟩ : BlkD).Right ↔ x.slot < s ∧ s ≤ 4095 := by
  have hp := h.parts
  have hs := h.s
  constructor
  · rintro ⟨h1, _, _, h4, _⟩
    rcases h4 with h4 | ⟨_, h5⟩
    · have := hp.1
      simp only at h4
      rw [h4] at this
      omega
    · simp only at h5 h1
      rw [hp.1] at h5
      exact ⟨h5, h1.2⟩
  · rintro ⟨h1, h2⟩
    exact ⟨⟨by simp only; omega, h2⟩, h.m, ⟨by simp, by simp⟩, .inr ⟨hp.2.2.2, by simp only; rw [hp.1]; exact h1⟩, ⟨by simp, by simp, by simp⟩⟩
end Go.Proofs.Ytgbhbifdfcfamaa
namespace Go.Proofs.Ytgbhbifdfcfamaa
set_option maxRecDepth 100000
open Go.RowKit Go.ChangeShapes Go.WideShapes Go.ChangeAt

instance : Inhabited BlkD := ⟨⟨0, 0, 0, 0, []⟩⟩
structure BlkD.Raw (d : BlkD) : Prop where
  slot : -9223372036854775808 ≤ d.slot ∧ d.slot ≤ 9223372036854775807
  miner : -9223372036854775808 ≤ d.miner ∧ d.miner ≤ 9223372036854775807
  var : -9223372036854775808 ≤ d.var ∧ d.var ≤ 9223372036854775807
  parent : -9223372036854775808 ≤ d.parent ∧ d.parent ≤ 9223372036854775807
  txs : ∀ x ∈ d.txs, x.Raw
/-- The cells of a record. -/
def BlkR (w : World) (row : List Value) (d : BlkD) : Prop := (∃ u4 : Value, row = [.int .i64 d.slot, .int .i64 d.miner, .int .i64 d.var, .int .i64 d.parent, u4] ∧ Recs 2 TxR w u4 d.txs) ∧ d.Raw
theorem BlkR.stays : Stays BlkR := fun _ _ _ _ ⟨⟨u4, h0, h5⟩, ho⟩ he => ⟨⟨u4, h0, h5.ext TxR.stays he⟩, ho⟩
theorem Try.stBlk : St Try.prog 46 5 [.int .i64 0, .int .i64 0, .int .i64 0, .int .i64 0, .slice none 0 0] := St.of (by kernel_rfl) (by kernel_rfl) rfl
section
variable {H : Type} {enc : TypeId × Value → H} {W : World}
theorem rd_Blk {fuel : Nat} {cs : List Value} {y : DataW H × List MemPlace} (hlen : cs.length = 5) (hy : DataW.trod enc Try.prog W 0 (fun _ => true) true fuel 46 cs = some y) (hw : Fits Try.prog 46 y.1) : ∃ d, BlkR W cs d := by
  obtain ⟨xs, m, _, rfl, _, hxl, hf⟩ := DataW.trod_struct Try.underlying46 hy
  match xs, hxl, cs, hlen with
  | [y0, y1, y2, y3, y4], _, [c0, c1, c2, c3, c4], _ =>
    have k0 : DataW.trod enc Try.prog W 0 (fun _ => true) true m 3 [c0] = some y0 := hf 0 _ rfl
    have k1 : DataW.trod enc Try.prog W 0 (fun _ => true) true m 3 [c1] = some y1 := hf 1 _ rfl
    have k2 : DataW.trod enc Try.prog W 0 (fun _ => true) true m 3 [c2] = some y2 := hf 2 _ rfl
    have k3 : DataW.trod enc Try.prog W 0 (fun _ => true) true m 3 [c3] = some y3 := hf 3 _ rfl
    have k4 : DataW.trod enc Try.prog W 0 (fun _ => true) true m 44 [c4] = some y4 := hf 4 _ rfl
    simp only [List.map_cons, List.map_nil] at hw
    obtain ⟨a0, e0, _, b0⟩ := DataW.trod_int Try.underlying3 k0
    injection e0 with e0 _
    subst e0
    obtain ⟨a1, e1, _, b1⟩ := DataW.trod_int Try.underlying3 k1
    injection e1 with e1 _
    subst e1
    obtain ⟨a2, e2, _, b2⟩ := DataW.trod_int Try.underlying3 k2
    injection e2 with e2 _
    subst e2
    obtain ⟨a3, e3, _, b3⟩ := DataW.trod_int Try.underlying3 k3
    injection e3 with e3 _
    subst e3
    obtain ⟨l4, g4, _⟩ := rd_recs (d := y4.1) (pl := y4.2) (n := 2) (R := TxR) Try.underlying44 (by kernel_rfl) (fun fuel cs y hlen hy hw => rd_Tx hlen hy hw) k4 (hw.part Try.underlying46 (j := 4) rfl rfl)
    exact ⟨⟨a0, a1, a2, a3, l4⟩, ⟨c4, rfl, g4⟩, ⟨i64_wf b0, i64_wf b1, i64_wf b2, i64_wf b3, recs_ok_of g4 fun _ _ _ h => h.2⟩⟩
theorem arg_Blk {base : Nat} {v : Value} {d : DataW H} {ps : List MemPlace} {ts : List TypeId} {ds : List (DataW H)} (hsz : (DataW.weightsEach Try.prog ts ds).all (· ≤ reachBytes) = true) {j : Nat} (ht : ts[j]? = some 46) (hd : ds[j]? = some d)
    (hval : Value.okWide Try.prog W .any base 46 v) (h : DataW.Trod enc Try.prog W 0 (fun _ => true) true 46 v d ps) : ∃ (row : List Value) (x : BlkD), v = .agg row.toArray ∧ row.length = 5 ∧ BlkR W row x := by
  have hu := Try.underlying46
  simp only [Value.okWide, hu] at hval
  obtain ⟨cs, rfl, hcs, _⟩ := hval
  have hc : Try.prog.cellsOf 46 = 5 := by kernel_rfl
  rw [hc] at hcs
  obtain ⟨fuel, hf⟩ := h
  obtain ⟨x, hx⟩ := rd_Blk (cs := cs.toList) (by simpa using hcs) hf (fits_arg hsz ht hd)
  exact ⟨cs.toList, x, by simp, by simpa using hcs, hx⟩
end
end Go.Proofs.Ytgbhbifdfcfamaa
namespace Go.Proofs.Ytgbhbifdfcfamaa
set_option maxRecDepth 100000
open Go.RowKit

def NumOk (s m v : Int) : Prop := (1 ≤ s ∧ s ≤ 4095) ∧ (0 ≤ m ∧ m ≤ 6) ∧ (0 ≤ v ∧ v ≤ 255)
instance (s m v : Int) : Decidable (NumOk s m v) := by unfold NumOk; infer_instance

set_option maxRecDepth 100000 in
set_option maxHeartbeats 800000 in
theorem numbers_any (s m v : Int) (w : World) : Calls Try.prog 71 #[.int .i64 s, .int .i64 m, .int .i64 v] w fun e w' => e = .returned (.bool (decide (NumOk s m v))) ∧ Ext w w' := by
  refine calls_keep ?_
  by_cases h1 : 1 ≤ s
  · have t1 : decide (1 ≤ s) = true := by simp; omega
    by_cases h2 : s ≤ 4095
    · have t2 : decide (s ≤ 4095) = true := by simp; omega
      by_cases h3 : 0 ≤ m
      · have t3 : decide (0 ≤ m) = true := by simp; omega
        by_cases h4 : m ≤ 6
        · have t4 : decide (m < 7) = true := by simp; omega
          by_cases h5 : 0 ≤ v
          · have t5 : decide (0 ≤ v) = true := by simp; omega
            by_cases h6 : v ≤ 255
            · have t6 : decide (v ≤ 255) = true := by simp; omega
              have hdec := hide_ (show decide (NumOk s m v) = true from decide_eq_true ⟨⟨h1, h2⟩, ⟨h3, h4⟩, ⟨h5, h6⟩⟩)
              clear h1 h2 h3 h4 h5 h6
              go_enter Try.func71, Try.ntmps71
              go_wp2
              go_ret
              exact Keep.intro ⟨by rw [hdec.out]; rfl, Ext.refl _⟩
            · have t6 : decide (v ≤ 255) = false := by simp; omega
              have hdec := hide_ (show decide (NumOk s m v) = false from decide_eq_false (fun h => h6 (by obtain ⟨⟨_, _⟩, ⟨_, _⟩, ⟨_, _⟩⟩ := h; assumption)))
              clear h1 h2 h3 h4 h5 h6
              go_enter Try.func71, Try.ntmps71
              go_wp2
              go_ret
              exact Keep.intro ⟨by rw [hdec.out]; rfl, Ext.refl _⟩
          · have t5 : decide (0 ≤ v) = false := by simp; omega
            have hdec := hide_ (show decide (NumOk s m v) = false from decide_eq_false (fun h => h5 (by obtain ⟨⟨_, _⟩, ⟨_, _⟩, ⟨_, _⟩⟩ := h; assumption)))
            clear h1 h2 h3 h4 h5
            go_enter Try.func71, Try.ntmps71
            go_wp2
            go_ret
            exact Keep.intro ⟨by rw [hdec.out]; rfl, Ext.refl _⟩
        · have t4 : decide (m < 7) = false := by simp; omega
          have hdec := hide_ (show decide (NumOk s m v) = false from decide_eq_false (fun h => h4 (by obtain ⟨⟨_, _⟩, ⟨_, _⟩, ⟨_, _⟩⟩ := h; assumption)))
          clear h1 h2 h3 h4
          go_enter Try.func71, Try.ntmps71
          go_wp2
          go_ret
          exact Keep.intro ⟨by rw [hdec.out]; rfl, Ext.refl _⟩
      · have t3 : decide (0 ≤ m) = false := by simp; omega
        have hdec := hide_ (show decide (NumOk s m v) = false from decide_eq_false (fun h => h3 (by obtain ⟨⟨_, _⟩, ⟨_, _⟩, ⟨_, _⟩⟩ := h; assumption)))
        clear h1 h2 h3
        go_enter Try.func71, Try.ntmps71
        go_wp2
        go_ret
        exact Keep.intro ⟨by rw [hdec.out]; rfl, Ext.refl _⟩
    · have t2 : decide (s ≤ 4095) = false := by simp; omega
      have hdec := hide_ (show decide (NumOk s m v) = false from decide_eq_false (fun h => h2 (by obtain ⟨⟨_, _⟩, ⟨_, _⟩, ⟨_, _⟩⟩ := h; assumption)))
      clear h1 h2
      go_enter Try.func71, Try.ntmps71
      go_wp2
      go_ret
      exact Keep.intro ⟨by rw [hdec.out]; rfl, Ext.refl _⟩
  · have t1 : decide (1 ≤ s) = false := by simp; omega
    have hdec := hide_ (show decide (NumOk s m v) = false from decide_eq_false (fun h => h1 (by obtain ⟨⟨_, _⟩, ⟨_, _⟩, ⟨_, _⟩⟩ := h; assumption)))
    clear h1
    go_enter Try.func71, Try.ntmps71
    go_wp2
    go_ret
    exact Keep.intro ⟨by rw [hdec.out]; rfl, Ext.refl _⟩

theorem wrap64_id {n : Int} (h : -9223372036854775808 ≤ n ∧ n ≤ 9223372036854775807) : wrap64 n = n := by unfold wrap64; omega
theorem tdiv_neg_le {n : Int} (h : n < 0) : n.tdiv 65536 ≤ 0 := by
  have := Int.tdiv_nonneg (a := -n) (b := 65536) (by omega) (by omega)
  rw [Int.neg_tdiv] at this; omega
theorem split_ok {n : Int} (hn : NmOk n) : n.tdiv 65536 = n / 65536 ∧ wrap64 ((n.tmod 65536).tdiv 256) = n / 256 % 256 ∧ 0 ≤ n.tmod 256 ∧ n.tmod 256 ≤ 255 := by
  have h0 := hn.pos
  rw [Int.tdiv_eq_ediv_of_nonneg h0, Int.tmod_eq_emod_of_nonneg h0, Int.tdiv_eq_ediv_of_nonneg (by omega), Int.tmod_eq_emod_of_nonneg h0, wrap64_id (by omega)]
  omega
theorem split_no {n : Int} (hn : ¬ NmOk n) : ¬ NumOk (n.tdiv 65536) (wrap64 ((n.tmod 65536).tdiv 256)) (n.tmod 256) := fun h => hn (by
  obtain ⟨⟨h1, h2⟩, ⟨h3, h4⟩, _⟩ := h
  by_cases h0 : 0 ≤ n
  · rw [Int.tdiv_eq_ediv_of_nonneg h0] at h1 h2
    rw [Int.tmod_eq_emod_of_nonneg h0, Int.tdiv_eq_ediv_of_nonneg (by omega), wrap64_id (by omega)] at h3 h4
    exact ⟨h0, h1, h2, by omega⟩
  · have := tdiv_neg_le (n := n) (by omega); omega)

set_option maxRecDepth 100000 in
set_option maxHeartbeats 800000 in
theorem split_any (n : Int) (h0 : -9223372036854775808 ≤ n) (h1 : n ≤ 9223372036854775807) (w : World) : Calls Try.prog 80 #[.int .i64 n] w fun e w' => e = .returned (.tuple #[.int .i64 (nmS n), .int .i64 (nmM n)]) ∧ Ext w w' := by
  refine calls_keep ?_
  by_cases hn : NmOk n
  · have hdec := hide_ (show decide (NumOk (n.tdiv 65536) (wrap64 ((n.tmod 65536).tdiv 256)) (n.tmod 256)) = true from decide_eq_true (by
      obtain ⟨e1, e2, e3, e4⟩ := split_ok hn
      have := hn.m; have := hn.s1; have := hn.s2
      rw [e1, e2]; exact ⟨by omega, by omega, e3, e4⟩))
    have e1 := hide_ (show nmS n = n.tdiv 65536 from by rw [nmS, if_pos hn, (split_ok hn).1])
    have e2 := hide_ (show nmM n = wrap64 ((n.tmod 65536).tdiv 256) from by rw [nmM, if_pos hn, (split_ok hn).2.1])
    clear hn
    go_enter Try.func80, Try.ntmps80
    go_wp2_with (first
      | (go_at_call 71; refine (numbers_any _ _ _ _).mono ?_; rintro e w2 ⟨rfl, hX⟩; rw [hdec.out])
      | fail)
    go_ret2
    exact Keep.intro ⟨by rw [e1.out, e2.out]; rfl, hX⟩
  · have hdec := hide_ (decide_eq_false (split_no hn))
    have e1 := hide_ (show nmS n = 0 from by rw [nmS, if_neg hn])
    have e2 := hide_ (show nmM n = 0 from by rw [nmM, if_neg hn])
    clear hn
    go_enter Try.func80, Try.ntmps80
    go_wp2_with (first
      | (go_at_call 71; refine (numbers_any _ _ _ _).mono ?_; rintro e w2 ⟨rfl, hX⟩; rw [hdec.out])
      | fail)
    go_ret2
    exact Keep.intro ⟨by rw [e1.out, e2.out]; rfl, hX⟩

set_option maxRecDepth 100000 in
set_option maxHeartbeats 800000 in
theorem Slot_any (n : Int) (h0 : -9223372036854775808 ≤ n) (h1 : n ≤ 9223372036854775807) (w : World) : Calls Try.prog 74 #[.int .i64 n] w fun e w' => e = .returned (.int .i64 (nmS n)) ∧ Ext w w' := by
  refine calls_keep ?_
  go_enter Try.func74, Try.ntmps74
  go_wp2_with (first
    | (go_at_call 80; refine (split_any n h0 h1 _).mono ?_; rintro e w2 ⟨rfl, hX⟩)
    | fail)
  go_ret
  exact Keep.intro ⟨rfl, hX⟩

def ParOk (p s : Int) : Prop := p = 0 ∨ (NmOk p ∧ p / 65536 < s)
instance (p s : Int) : Decidable (ParOk p s) := by unfold ParOk; infer_instance
theorem BlkD.right_iff (b : BlkD) : b.Right ↔ NumOk b.slot b.miner b.var ∧ ParOk b.parent b.slot ∧ LsOk b.txs := ⟨fun h => ⟨⟨h.s, h.m, h.v⟩, h.p, h.t⟩, fun ⟨⟨h1, h2, h3⟩, h4, h5⟩ => ⟨h1, h2, h3, h4, h5⟩⟩
theorem nmS_pos {n : Int} : 1 ≤ nmS n ↔ NmOk n := by
  unfold nmS
  constructor
  · intro h
    by_cases hn : NmOk n
    · exact hn
    · rw [if_neg hn] at h; omega
  · intro h; rw [if_pos h]; exact h.s1
theorem parOk_iff {p s : Int} (h : p ≠ 0) : ParOk p s ↔ 1 ≤ nmS p ∧ nmS p < s := by
  rw [nmS_pos]
  constructor
  · rintro (h1 | ⟨h1, h2⟩)
    · exact absurd h1 h
    · exact ⟨h1, by rw [nmS, if_pos h1]; exact h2⟩
  · rintro ⟨h1, h2⟩
    rw [nmS, if_pos h1] at h2
    exact .inr ⟨h1, h2⟩
def I64 (n : Int) : Prop := -9223372036854775808 ≤ n ∧ n ≤ 9223372036854775807

set_option maxRecDepth 100000 in
set_option maxHeartbeats 800000 in
theorem parent_any {W : World} {u : Value} {b : BlkD} (_hu : Recs 2 TxR W u b.txs) (hp : I64 b.parent) (w : World) : Calls Try.prog 72 #[.agg #[.int .i64 b.slot, .int .i64 b.miner, .int .i64 b.var, .int .i64 b.parent, u]] w fun e w' => e = .returned (.bool (decide (ParOk b.parent b.slot))) ∧ Ext w w' := by
  refine calls_keep ?_
  obtain ⟨n, hns'⟩ : ∃ n, nmS b.parent = n := ⟨_, rfl⟩
  have hns := hide_ hns'
  cases h0 : (b.parent == 0)
  rotate_left
  · have hdec := hide_ (show decide (ParOk b.parent b.slot) = true from decide_eq_true (.inl (by simpa using h0)))
    go_enter Try.func72, Try.ntmps72
    go_wp2_with ((first
      | ((with_reducible refine at_box ?_); refine w_box _ [.int .i64 b.slot, .int .i64 b.miner, .int .i64 b.var, .int .i64 b.parent, u] rfl rfl rfl rfl ?_; intro g1 w1 hg1 hX f1)
      | (go_at_call 74; refine (Slot_any b.parent hp.1 hp.2 _).mono ?_; rintro e w2 ⟨rfl, hx⟩; rw [hns.out]; replace f1 := f1.ext hx; replace hX := hX.trans hx; clear hx)
      | ((with_reducible refine at_field ?_); (try refine w_yes _ _ _ rfl rfl rfl ?_); refine w_field Try.stBlk _ _ _ rfl rfl rfl (by omega) ?_)
      | ((with_reducible refine at_load ?_); (try refine w_yes _ _ _ rfl rfl rfl ?_); refine w_fload _ rfl rfl rfl f1 rfl (agg_of (by kernel_rfl)) ?_)
      | fail) <;> (try simp only [Act.put, List.setIfInBounds_toArray, List.set_cons_zero, List.set_cons_succ]))
    go_ret
    exact Keep.intro ⟨by rw [hdec.out]; rfl, hX⟩
  have hiff := parOk_iff (p := b.parent) (s := b.slot) (by simpa using h0)
  rw [hns'] at hiff
  by_cases h1 : 1 ≤ n
  · have t1 : decide (1 ≤ n) = true := by simpa using h1
    by_cases h2 : n < b.slot
    · have t2 : decide (n < b.slot) = true := by simpa using h2
      have hdec := hide_ (show decide (ParOk b.parent b.slot) = true from decide_eq_true (hiff.2 ⟨h1, h2⟩))
      clear hiff h1 h2 hns'
      go_enter Try.func72, Try.ntmps72
      go_wp2_with ((first
        | ((with_reducible refine at_box ?_); refine w_box _ [.int .i64 b.slot, .int .i64 b.miner, .int .i64 b.var, .int .i64 b.parent, u] rfl rfl rfl rfl ?_; intro g1 w1 hg1 hX f1)
        | (go_at_call 74; refine (Slot_any b.parent hp.1 hp.2 _).mono ?_; rintro e w2 ⟨rfl, hx⟩; rw [hns.out]; replace f1 := f1.ext hx; replace hX := hX.trans hx; clear hx)
        | ((with_reducible refine at_field ?_); (try refine w_yes _ _ _ rfl rfl rfl ?_); refine w_field Try.stBlk _ _ _ rfl rfl rfl (by omega) ?_)
        | ((with_reducible refine at_load ?_); (try refine w_yes _ _ _ rfl rfl rfl ?_); refine w_fload _ rfl rfl rfl f1 rfl (agg_of (by kernel_rfl)) ?_)
        | fail) <;> (try simp only [Act.put, List.setIfInBounds_toArray, List.set_cons_zero, List.set_cons_succ]))
      go_ret
      exact Keep.intro ⟨by rw [hdec.out]; rfl, hX⟩
    · have t2 : decide (n < b.slot) = false := by simpa using h2
      have hdec := hide_ (show decide (ParOk b.parent b.slot) = false from decide_eq_false fun h => h2 (hiff.1 h).2)
      clear hiff h1 h2 hns'
      go_enter Try.func72, Try.ntmps72
      go_wp2_with ((first
        | ((with_reducible refine at_box ?_); refine w_box _ [.int .i64 b.slot, .int .i64 b.miner, .int .i64 b.var, .int .i64 b.parent, u] rfl rfl rfl rfl ?_; intro g1 w1 hg1 hX f1)
        | (go_at_call 74; refine (Slot_any b.parent hp.1 hp.2 _).mono ?_; rintro e w2 ⟨rfl, hx⟩; rw [hns.out]; replace f1 := f1.ext hx; replace hX := hX.trans hx; clear hx)
        | ((with_reducible refine at_field ?_); (try refine w_yes _ _ _ rfl rfl rfl ?_); refine w_field Try.stBlk _ _ _ rfl rfl rfl (by omega) ?_)
        | ((with_reducible refine at_load ?_); (try refine w_yes _ _ _ rfl rfl rfl ?_); refine w_fload _ rfl rfl rfl f1 rfl (agg_of (by kernel_rfl)) ?_)
        | fail) <;> (try simp only [Act.put, List.setIfInBounds_toArray, List.set_cons_zero, List.set_cons_succ]))
      go_ret
      exact Keep.intro ⟨by rw [hdec.out]; rfl, hX⟩
  · have t1 : decide (1 ≤ n) = false := by simpa using h1
    have hdec := hide_ (show decide (ParOk b.parent b.slot) = false from decide_eq_false fun h => h1 (hiff.1 h).1)
    clear hiff h1 hns'
    go_enter Try.func72, Try.ntmps72
    go_wp2_with ((first
      | ((with_reducible refine at_box ?_); refine w_box _ [.int .i64 b.slot, .int .i64 b.miner, .int .i64 b.var, .int .i64 b.parent, u] rfl rfl rfl rfl ?_; intro g1 w1 hg1 hX f1)
      | (go_at_call 74; refine (Slot_any b.parent hp.1 hp.2 _).mono ?_; rintro e w2 ⟨rfl, hx⟩; rw [hns.out]; replace f1 := f1.ext hx; replace hX := hX.trans hx; clear hx)
      | ((with_reducible refine at_field ?_); (try refine w_yes _ _ _ rfl rfl rfl ?_); refine w_field Try.stBlk _ _ _ rfl rfl rfl (by omega) ?_)
      | ((with_reducible refine at_load ?_); (try refine w_yes _ _ _ rfl rfl rfl ?_); refine w_fload _ rfl rfl rfl f1 rfl (agg_of (by kernel_rfl)) ?_)
      | fail) <;> (try simp only [Act.put, List.setIfInBounds_toArray, List.set_cons_zero, List.set_cons_succ]))
    go_ret
    exact Keep.intro ⟨by rw [hdec.out]; rfl, hX⟩

set_option maxRecDepth 100000 in
set_option maxHeartbeats 800000 in
theorem BRight_any {w : World} {u : Value} {b : BlkD} (hu0 : Recs 2 TxR w u b.txs) (hp : I64 b.parent) : Calls Try.prog 64 #[.agg #[.int .i64 b.slot, .int .i64 b.miner, .int .i64 b.var, .int .i64 b.parent, u]] w fun e w' => e = .returned (.bool (decide b.Right)) ∧ Ext w w' := by
  refine calls_keep ?_
  have hu := hide_ hu0
  replace hp := hide_ hp
  have hiff := b.right_iff
  by_cases h1 : NumOk b.slot b.miner b.var
  rotate_left
  · have hn := hide_ (decide_eq_false h1)
    have hdec := hide_ (show decide b.Right = false from decide_eq_false fun h => h1 (hiff.1 h).1)
    clear hiff h1
    go_enter Try.func64, Try.ntmps64
    go_wp2_with ((first
      | ((with_reducible refine at_box ?_); refine w_box _ [.int .i64 b.slot, .int .i64 b.miner, .int .i64 b.var, .int .i64 b.parent, u] rfl rfl rfl rfl ?_; intro g1 w1 hg1 hX f1)
      | (go_at_call 71; refine (numbers_any _ _ _ _).mono ?_; rintro e w2 ⟨rfl, hx⟩; rw [hn.out]; replace f1 := f1.ext hx; replace hX := hX.trans hx; clear hx)
      | ((with_reducible refine at_field ?_); (try refine w_yes _ _ _ rfl rfl rfl ?_); refine w_field Try.stBlk _ _ _ rfl rfl rfl (by omega) ?_)
      | ((with_reducible refine at_load ?_); (try refine w_yes _ _ _ rfl rfl rfl ?_); refine w_fload _ rfl rfl rfl f1 rfl (agg_of (by kernel_rfl)) ?_)
      | fail) <;> (try simp only [Act.put, List.setIfInBounds_toArray, List.set_cons_zero, List.set_cons_succ]))
    go_ret
    exact Keep.intro ⟨by rw [hdec.out]; rfl, hX⟩
  have hn := hide_ (decide_eq_true h1)
  by_cases h2 : ParOk b.parent b.slot
  rotate_left
  · have hpar := hide_ (decide_eq_false h2)
    have hdec := hide_ (show decide b.Right = false from decide_eq_false fun h => h2 (hiff.1 h).2.1)
    clear hiff h1 h2
    go_enter Try.func64, Try.ntmps64
    go_wp2_with ((first
      | ((with_reducible refine at_box ?_); refine w_box _ [.int .i64 b.slot, .int .i64 b.miner, .int .i64 b.var, .int .i64 b.parent, u] rfl rfl rfl rfl ?_; intro g1 w1 hg1 hX f1)
      | (go_at_call 71; refine (numbers_any _ _ _ _).mono ?_; rintro e w2 ⟨rfl, hx⟩; rw [hn.out]; replace f1 := f1.ext hx; replace hX := hX.trans hx; clear hx)
      | (go_at_call 72; refine (parent_any (b := b) hu0 (hp.out) _).mono ?_; rintro e w3 ⟨rfl, hx⟩; rw [hpar.out]; replace f1 := f1.ext hx; replace hX := hX.trans hx; clear hx)
      | ((with_reducible refine at_field ?_); (try refine w_yes _ _ _ rfl rfl rfl ?_); refine w_field Try.stBlk _ _ _ rfl rfl rfl (by omega) ?_)
      | ((with_reducible refine at_load ?_); (try refine w_yes _ _ _ rfl rfl rfl ?_); refine w_aload Try.stBlk _ rfl rfl rfl f1 rfl ?_)
      | ((with_reducible refine at_load ?_); (try refine w_yes _ _ _ rfl rfl rfl ?_); refine w_fload _ rfl rfl rfl f1 rfl (agg_of (by kernel_rfl)) ?_)
      | fail) <;> (try simp only [Act.put, List.setIfInBounds_toArray, List.set_cons_zero, List.set_cons_succ]))
    go_ret
    exact Keep.intro ⟨by rw [hdec.out]; rfl, hX⟩
  have hpar := hide_ (decide_eq_true h2)
  by_cases h3 : LsOk b.txs
  · have hle := hide_ (show tlE b.txs = 0 from if_pos h3)
    have hdec := hide_ (show decide b.Right = true from decide_eq_true (hiff.2 ⟨h1, h2, h3⟩))
    clear hiff h1 h2 h3
    go_enter Try.func64, Try.ntmps64
    go_wp2_with ((first
      | ((with_reducible refine at_box ?_); refine w_box _ [.int .i64 b.slot, .int .i64 b.miner, .int .i64 b.var, .int .i64 b.parent, u] rfl rfl rfl rfl ?_; intro g1 w1 hg1 hX f1)
      | (go_at_call 71; refine (numbers_any _ _ _ _).mono ?_; rintro e w2 ⟨rfl, hx⟩; rw [hn.out]; replace f1 := f1.ext hx; replace hX := hX.trans hx; clear hx)
      | (go_at_call 72; refine (parent_any (b := b) hu0 (hp.out) _).mono ?_; rintro e w3 ⟨rfl, hx⟩; rw [hpar.out]; replace f1 := f1.ext hx; replace hX := hX.trans hx; clear hx)
      | (go_at_call 73; refine (TList_any (v := u) (hu.out.ext TxR.stays hX)).mono ?_; rintro e w4 ⟨v4, rfl, o4, hx⟩; rw [hle.out]; replace f1 := f1.ext hx; replace hX := hX.trans hx; clear hx o4)
      | ((with_reducible refine at_field ?_); (try refine w_yes _ _ _ rfl rfl rfl ?_); refine w_field Try.stBlk _ _ _ rfl rfl rfl (by omega) ?_)
      | ((with_reducible refine at_load ?_); (try refine w_yes _ _ _ rfl rfl rfl ?_); refine w_aload Try.stBlk _ rfl rfl rfl f1 rfl ?_)
      | ((with_reducible refine at_load ?_); (try refine w_yes _ _ _ rfl rfl rfl ?_); refine w_fload _ rfl rfl rfl f1 rfl (agg_of (by kernel_rfl)) ?_)
      | fail) <;> (try simp only [Act.put, List.setIfInBounds_toArray, List.set_cons_zero, List.set_cons_succ]))
    go_ret
    exact Keep.intro ⟨by rw [hdec.out]; rfl, hX⟩
  · have hle := hide_ (show tlE b.txs = 61 from if_neg h3)
    have hdec := hide_ (show decide b.Right = false from decide_eq_false fun h => h3 (hiff.1 h).2.2)
    clear hiff h1 h2 h3
    go_enter Try.func64, Try.ntmps64
    go_wp2_with ((first
      | ((with_reducible refine at_box ?_); refine w_box _ [.int .i64 b.slot, .int .i64 b.miner, .int .i64 b.var, .int .i64 b.parent, u] rfl rfl rfl rfl ?_; intro g1 w1 hg1 hX f1)
      | (go_at_call 71; refine (numbers_any _ _ _ _).mono ?_; rintro e w2 ⟨rfl, hx⟩; rw [hn.out]; replace f1 := f1.ext hx; replace hX := hX.trans hx; clear hx)
      | (go_at_call 72; refine (parent_any (b := b) hu0 (hp.out) _).mono ?_; rintro e w3 ⟨rfl, hx⟩; rw [hpar.out]; replace f1 := f1.ext hx; replace hX := hX.trans hx; clear hx)
      | (go_at_call 73; refine (TList_any (v := u) (hu.out.ext TxR.stays hX)).mono ?_; rintro e w4 ⟨v4, rfl, o4, hx⟩; rw [hle.out]; replace f1 := f1.ext hx; replace hX := hX.trans hx; clear hx o4)
      | ((with_reducible refine at_field ?_); (try refine w_yes _ _ _ rfl rfl rfl ?_); refine w_field Try.stBlk _ _ _ rfl rfl rfl (by omega) ?_)
      | ((with_reducible refine at_load ?_); (try refine w_yes _ _ _ rfl rfl rfl ?_); refine w_aload Try.stBlk _ rfl rfl rfl f1 rfl ?_)
      | ((with_reducible refine at_load ?_); (try refine w_yes _ _ _ rfl rfl rfl ?_); refine w_fload _ rfl rfl rfl f1 rfl (agg_of (by kernel_rfl)) ?_)
      | fail) <;> (try simp only [Act.put, List.setIfInBounds_toArray, List.set_cons_zero, List.set_cons_succ]))
    go_ret
    exact Keep.intro ⟨by rw [hdec.out]; rfl, hX⟩

set_option maxRecDepth 100000 in
set_option maxHeartbeats 800000 in
theorem BName_any {w : World} {u : Value} {b : BlkD} (hu0 : Recs 2 TxR w u b.txs) (hp : I64 b.parent) : Calls Try.prog 48 #[.agg #[.int .i64 b.slot, .int .i64 b.miner, .int .i64 b.var, .int .i64 b.parent, u]] w fun e w' => e = .returned (.int .i64 b.name) ∧ Ext w w' := by
  refine calls_keep ?_
  have hu := hide_ hu0
  replace hp := hide_ hp
  by_cases h : b.Right
  · have hdec := hide_ (decide_eq_true h)
    obtain ⟨⟨h1, h2⟩, ⟨h3, h4⟩, ⟨h5, h6⟩, _, _⟩ := h
    have hnm := hide_ (show b.name = b.slot * 65536 + b.miner * 256 + b.var from by rw [BlkD.name, if_pos (by simpa using hdec.out), BlkD.nm]; omega)
    go_enter Try.func48, Try.ntmps48
    go_wp2_with ((first
      | ((with_reducible refine at_box ?_); refine w_box _ [.int .i64 b.slot, .int .i64 b.miner, .int .i64 b.var, .int .i64 b.parent, u] rfl rfl rfl rfl ?_; intro g1 w1 hg1 hX f1)
      | (go_at_call 64; refine (BRight_any (b := b) (hu.out.ext TxR.stays hX) hp.out).mono ?_; rintro e w2 ⟨rfl, hx⟩; rw [hdec.out]; replace f1 := f1.ext hx; replace hX := hX.trans hx; clear hx)
      | ((with_reducible refine at_field ?_); (try refine w_yes _ _ _ rfl rfl rfl ?_); refine w_field Try.stBlk _ _ _ rfl rfl rfl (by omega) ?_)
      | ((with_reducible refine at_load ?_); (try refine w_yes _ _ _ rfl rfl rfl ?_); refine w_aload Try.stBlk _ rfl rfl rfl f1 rfl ?_)
      | ((with_reducible refine at_load ?_); (try refine w_yes _ _ _ rfl rfl rfl ?_); refine w_fload _ rfl rfl rfl f1 rfl (agg_of (by kernel_rfl)) ?_)
      | fail) <;> (try simp only [Act.put, List.setIfInBounds_toArray, List.set_cons_zero, List.set_cons_succ]))
    go_ret
    exact Keep.intro ⟨by rw [hnm.out]; rfl, hX⟩
  · have hdec := hide_ (decide_eq_false h)
    have hnm := hide_ (show b.name = 0 from by rw [BlkD.name, if_neg h])
    clear h
    go_enter Try.func48, Try.ntmps48
    go_wp2_with ((first
      | ((with_reducible refine at_box ?_); refine w_box _ [.int .i64 b.slot, .int .i64 b.miner, .int .i64 b.var, .int .i64 b.parent, u] rfl rfl rfl rfl ?_; intro g1 w1 hg1 hX f1)
      | (go_at_call 64; refine (BRight_any (b := b) (hu.out.ext TxR.stays hX) hp.out).mono ?_; rintro e w2 ⟨rfl, hx⟩; rw [hdec.out]; replace f1 := f1.ext hx; replace hX := hX.trans hx; clear hx)
      | ((with_reducible refine at_field ?_); (try refine w_yes _ _ _ rfl rfl rfl ?_); refine w_field Try.stBlk _ _ _ rfl rfl rfl (by omega) ?_)
      | ((with_reducible refine at_load ?_); (try refine w_yes _ _ _ rfl rfl rfl ?_); refine w_aload Try.stBlk _ rfl rfl rfl f1 rfl ?_)
      | ((with_reducible refine at_load ?_); (try refine w_yes _ _ _ rfl rfl rfl ?_); refine w_fload _ rfl rfl rfl f1 rfl (agg_of (by kernel_rfl)) ?_)
      | fail) <;> (try simp only [Act.put, List.setIfInBounds_toArray, List.set_cons_zero, List.set_cons_succ]))
    go_ret
    exact Keep.intro ⟨by rw [hnm.out]; rfl, hX⟩

/-! ### The document's -/
theorem results_tmp4 {fn : Func} {t u v x : Tmp} (h : fn.results = #[.tmp t, .tmp u, .tmp v, .tmp x]) (tmps : Array Value) (P : Program) (w : World) :
    (results fn tmps).run P w = .ok (.tuple #[tmps.getD t undef, tmps.getD u undef, tmps.getD v undef, tmps.getD x undef]) w := by
  simp [results, h]
def ptS (n : Int) : Int := if n < 0 then 0 else n / 65536
def ptM (n : Int) : Int := if n < 0 then 0 else n / 256 % 256
def ptV (n : Int) : Int := if n < 0 then 0 else n % 256
theorem ptS_of {n : Int} (h : 0 ≤ n) : ptS n = n / 65536 := by rw [ptS, if_neg (by omega)]
theorem ptM_of {n : Int} (h : 0 ≤ n) : ptM n = n / 256 % 256 := by rw [ptM, if_neg (by omega)]
theorem ptV_of {n : Int} (h : 0 ≤ n) : ptV n = n % 256 := by rw [ptV, if_neg (by omega)]
theorem nmOk_pt {n : Int} (h : 0 ≤ n) : NmOk n ↔ 1 ≤ n / 65536 ∧ n / 65536 ≤ 4095 ∧ n / 256 % 256 ≤ 6 := ⟨fun ⟨_, a, b, c⟩ => ⟨a, b, c⟩, fun ⟨a, b, c⟩ => ⟨h, a, b, c⟩⟩

set_option maxRecDepth 100000 in
set_option maxHeartbeats 800000 in
theorem Parts_any (n : Int) (h0 : -9223372036854775808 ≤ n) (h1 : n ≤ 9223372036854775807) (w : World) : Calls Try.prog 54 #[.int .i64 n] w fun e w' => e = .returned (.tuple #[.int .i64 (ptS n), .int .i64 (ptM n), .int .i64 (ptV n), .bool (decide (NmOk n))]) ∧ Ext w w' := by
  refine calls_keep ?_
  by_cases hn : n < 0
  · have t0 : decide (n < 0) = true := by simpa using hn
    have e1 := hide_ (show ptS n = 0 from if_pos hn)
    have e2 := hide_ (show ptM n = 0 from if_pos hn)
    have e3 := hide_ (show ptV n = 0 from if_pos hn)
    have e4 := hide_ (show decide (NmOk n) = false from decide_eq_false fun h => by have := h.pos; omega)
    clear hn
    go_enter Try.func54, Try.ntmps54
    go_wp2
    refine bodyPost_ret (results_tmp4 rfl _ _ _) rfl ?_
    exact Keep.intro ⟨by rw [e1.out, e2.out, e3.out, e4.out]; rfl, Ext.refl _⟩
  have t0 : decide (n < 0) = false := by simpa using hn
  have hn0 : 0 ≤ n := by omega
  have e1 := hide_ (ptS_of hn0)
  have e2 := hide_ (ptM_of hn0)
  have e3 := hide_ (ptV_of hn0)
  have hiff := nmOk_pt hn0
  clear hn
  by_cases k1 : 1 ≤ n / 65536
  · have t1 : decide (1 ≤ n / 65536) = true := by simp; omega
    by_cases k2 : n / 65536 ≤ 4095
    · have t2 : decide (n / 65536 ≤ 4095) = true := by simp; omega
      by_cases k3 : n / 256 % 256 ≤ 6
      · have t3 : decide (n / 256 % 256 ≤ 6) = true := by simp; omega
        have e4 := hide_ (show decide (NmOk n) = true from decide_eq_true (hiff.2 ⟨k1, k2, k3⟩))
        clear hiff k1 k2 k3
        go_enter Try.func54, Try.ntmps54
        go_wp2
        refine bodyPost_ret (results_tmp4 rfl _ _ _) rfl ?_
        exact Keep.intro ⟨by rw [e1.out, e2.out, e3.out, e4.out]; rfl, Ext.refl _⟩
      · have t3 : decide (n / 256 % 256 ≤ 6) = false := by simp; omega
        have e4 := hide_ (show decide (NmOk n) = false from decide_eq_false (fun h => k3 (by obtain ⟨_, _, _⟩ := hiff.1 h; assumption)))
        clear hiff k1 k2 k3
        go_enter Try.func54, Try.ntmps54
        go_wp2
        refine bodyPost_ret (results_tmp4 rfl _ _ _) rfl ?_
        exact Keep.intro ⟨by rw [e1.out, e2.out, e3.out, e4.out]; rfl, Ext.refl _⟩
    · have t2 : decide (n / 65536 ≤ 4095) = false := by simp; omega
      have e4 := hide_ (show decide (NmOk n) = false from decide_eq_false (fun h => k2 (by obtain ⟨_, _, _⟩ := hiff.1 h; assumption)))
      clear hiff k1 k2
      go_enter Try.func54, Try.ntmps54
      go_wp2
      refine bodyPost_ret (results_tmp4 rfl _ _ _) rfl ?_
      exact Keep.intro ⟨by rw [e1.out, e2.out, e3.out, e4.out]; rfl, Ext.refl _⟩
  · have t1 : decide (1 ≤ n / 65536) = false := by simp; omega
    have e4 := hide_ (show decide (NmOk n) = false from decide_eq_false (fun h => k1 (by obtain ⟨_, _, _⟩ := hiff.1 h; assumption)))
    clear hiff k1
    go_enter Try.func54, Try.ntmps54
    go_wp2
    refine bodyPost_ret (results_tmp4 rfl _ _ _) rfl ?_
    exact Keep.intro ⟨by rw [e1.out, e2.out, e3.out, e4.out]; rfl, Ext.refl _⟩

set_option maxRecDepth 100000 in
set_option maxHeartbeats 800000 in
theorem refBRight_any {w : World} {u : Value} {b : BlkD} (hu0 : Recs 2 TxR w u b.txs) (hp : I64 b.parent) : Calls Try.prog 33 #[.agg #[.int .i64 b.slot, .int .i64 b.miner, .int .i64 b.var, .int .i64 b.parent, u]] w fun e w' => e = .returned (.bool (decide b.Right)) ∧ Ext w w' := by
  refine calls_keep ?_
  have hu := hide_ hu0
  replace hp := hide_ hp
  have hiff := b.right_iff
  by_cases h1 : 1 ≤ b.slot
  · have t1 : decide (b.slot < 1) = false := by simp; omega
    by_cases h2 : b.slot ≤ 4095
    · have t2 : decide (4095 < b.slot) = false := by simp; omega
      by_cases h3 : 0 ≤ b.miner
      · have t3 : decide (b.miner < 0) = false := by simp; omega
        by_cases h4 : b.miner ≤ 6
        · have t4 : decide (6 < b.miner) = false := by simp; omega
          by_cases h5 : 0 ≤ b.var
          · have t5 : decide (b.var < 0) = false := by simp; omega
            by_cases h6 : b.var ≤ 255
            · have t6 : decide (255 < b.var) = false := by simp; omega
              have hnum : NumOk b.slot b.miner b.var := ⟨⟨h1, h2⟩, ⟨h3, h4⟩, ⟨h5, h6⟩⟩
              clear h1 h2 h3 h4 h5 h6
              by_cases h7 : LsOk b.txs
              rotate_left
              · have hle := hide_ (show tlE b.txs = 61 from if_neg h7)
                have hdec := hide_ (show decide b.Right = false from decide_eq_false fun h => h7 (hiff.1 h).2.2)
                clear hiff h7 hnum
                go_enter Try.func33, Try.ntmps33
                go_wp2_with ((first
                  | ((with_reducible refine at_box ?_); refine w_box _ [.int .i64 b.slot, .int .i64 b.miner, .int .i64 b.var, .int .i64 b.parent, u] rfl rfl rfl rfl ?_; intro g1 w1 hg1 hX f1)
                  | (go_at_call 53; refine (refTList_any (v := u) (hu.out.ext TxR.stays hX)).mono ?_; rintro e w4 ⟨v4, rfl, o4, hx⟩; rw [hle.out]; replace f1 := f1.ext hx; replace hX := hX.trans hx; clear hx o4)
                  | ((with_reducible refine at_field ?_); (try refine w_yes _ _ _ rfl rfl rfl ?_); refine w_field Try.stBlk _ _ _ rfl rfl rfl (by omega) ?_)
                  | ((with_reducible refine at_load ?_); (try refine w_yes _ _ _ rfl rfl rfl ?_); refine w_fload _ rfl rfl rfl f1 rfl (agg_of (by kernel_rfl)) ?_)
                  | fail) <;> (try simp only [Act.put, List.setIfInBounds_toArray, List.set_cons_zero, List.set_cons_succ]))
                go_ret
                exact Keep.intro ⟨by rw [hdec.out]; rfl, hX⟩
              have hle := hide_ (show tlE b.txs = 0 from if_pos h7)
              cases h0 : (b.parent == 0)
              rotate_left
              · have hdec := hide_ (show decide b.Right = true from decide_eq_true (hiff.2 ⟨hnum, .inl (by simpa using h0), h7⟩))
                clear hiff h7 hnum
                go_enter Try.func33, Try.ntmps33
                go_wp2_with ((first
                  | ((with_reducible refine at_box ?_); refine w_box _ [.int .i64 b.slot, .int .i64 b.miner, .int .i64 b.var, .int .i64 b.parent, u] rfl rfl rfl rfl ?_; intro g1 w1 hg1 hX f1)
                  | (go_at_call 53; refine (refTList_any (v := u) (hu.out.ext TxR.stays hX)).mono ?_; rintro e w4 ⟨v4, rfl, o4, hx⟩; rw [hle.out]; replace f1 := f1.ext hx; replace hX := hX.trans hx; clear hx o4)
                  | ((with_reducible refine at_field ?_); (try refine w_yes _ _ _ rfl rfl rfl ?_); refine w_field Try.stBlk _ _ _ rfl rfl rfl (by omega) ?_)
                  | ((with_reducible refine at_load ?_); (try refine w_yes _ _ _ rfl rfl rfl ?_); refine w_fload _ rfl rfl rfl f1 rfl (agg_of (by kernel_rfl)) ?_)
                  | fail) <;> (try simp only [Act.put, List.setIfInBounds_toArray, List.set_cons_zero, List.set_cons_succ]))
                go_ret
                exact Keep.intro ⟨by rw [hdec.out]; rfl, hX⟩
              have hpar : ParOk b.parent b.slot ↔ NmOk b.parent ∧ ptS b.parent < b.slot := by
                have hne : b.parent ≠ 0 := by simpa using h0
                constructor
                · rintro (k | ⟨k, k2⟩)
                  · exact absurd k hne
                  · exact ⟨k, by have := k.pos; rw [ptS, if_neg (by omega)]; exact k2⟩
                · rintro ⟨k, k2⟩
                  have := k.pos
                  rw [ptS, if_neg (by omega)] at k2
                  exact .inr ⟨k, k2⟩
              obtain ⟨n, hns'⟩ : ∃ n, ptS b.parent = n := ⟨_, rfl⟩
              have hns := hide_ hns'
              rw [hns'] at hpar
              by_cases h8 : NmOk b.parent
              rotate_left
              · have hok := hide_ (decide_eq_false h8)
                have hdec := hide_ (show decide b.Right = false from decide_eq_false fun h => h8 (hpar.1 (hiff.1 h).2.1).1)
                clear hiff h7 h8 hnum hpar hns'
                go_enter Try.func33, Try.ntmps33
                go_wp2_with ((first
                  | ((with_reducible refine at_box ?_); refine w_box _ [.int .i64 b.slot, .int .i64 b.miner, .int .i64 b.var, .int .i64 b.parent, u] rfl rfl rfl rfl ?_; intro g1 w1 hg1 hX f1)
                  | (go_at_call 53; refine (refTList_any (v := u) (hu.out.ext TxR.stays hX)).mono ?_; rintro e w4 ⟨v4, rfl, o4, hx⟩; rw [hle.out]; replace f1 := f1.ext hx; replace hX := hX.trans hx; clear hx o4)
                  | (go_at_call 54; refine (Parts_any b.parent hp.out.1 hp.out.2 _).mono ?_; rintro e w5 ⟨rfl, hx⟩; rw [hok.out, hns.out]; replace f1 := f1.ext hx; replace hX := hX.trans hx; clear hx)
                  | ((with_reducible refine at_field ?_); (try refine w_yes _ _ _ rfl rfl rfl ?_); refine w_field Try.stBlk _ _ _ rfl rfl rfl (by omega) ?_)
                  | ((with_reducible refine at_load ?_); (try refine w_yes _ _ _ rfl rfl rfl ?_); refine w_aload Try.stBlk _ rfl rfl rfl f1 rfl ?_)
                  | ((with_reducible refine at_load ?_); (try refine w_yes _ _ _ rfl rfl rfl ?_); refine w_fload _ rfl rfl rfl f1 rfl (agg_of (by kernel_rfl)) ?_)
                  | fail) <;> (try simp only [Act.put, List.setIfInBounds_toArray, List.set_cons_zero, List.set_cons_succ]))
                go_ret
                exact Keep.intro ⟨by rw [hdec.out]; rfl, hX⟩
              have hok := hide_ (decide_eq_true h8)
              by_cases h9 : n < b.slot
              · have t9 : decide (n < b.slot) = true := by simpa using h9
                have hdec := hide_ (show decide b.Right = true from decide_eq_true (hiff.2 ⟨hnum, hpar.2 ⟨h8, h9⟩, h7⟩))
                clear hiff h7 h8 h9 hnum hpar hns'
                go_enter Try.func33, Try.ntmps33
                go_wp2_with ((first
                  | ((with_reducible refine at_box ?_); refine w_box _ [.int .i64 b.slot, .int .i64 b.miner, .int .i64 b.var, .int .i64 b.parent, u] rfl rfl rfl rfl ?_; intro g1 w1 hg1 hX f1)
                  | (go_at_call 53; refine (refTList_any (v := u) (hu.out.ext TxR.stays hX)).mono ?_; rintro e w4 ⟨v4, rfl, o4, hx⟩; rw [hle.out]; replace f1 := f1.ext hx; replace hX := hX.trans hx; clear hx o4)
                  | (go_at_call 54; refine (Parts_any b.parent hp.out.1 hp.out.2 _).mono ?_; rintro e w5 ⟨rfl, hx⟩; rw [hok.out, hns.out]; replace f1 := f1.ext hx; replace hX := hX.trans hx; clear hx)
                  | ((with_reducible refine at_field ?_); (try refine w_yes _ _ _ rfl rfl rfl ?_); refine w_field Try.stBlk _ _ _ rfl rfl rfl (by omega) ?_)
                  | ((with_reducible refine at_load ?_); (try refine w_yes _ _ _ rfl rfl rfl ?_); refine w_aload Try.stBlk _ rfl rfl rfl f1 rfl ?_)
                  | ((with_reducible refine at_load ?_); (try refine w_yes _ _ _ rfl rfl rfl ?_); refine w_fload _ rfl rfl rfl f1 rfl (agg_of (by kernel_rfl)) ?_)
                  | fail) <;> (try simp only [Act.put, List.setIfInBounds_toArray, List.set_cons_zero, List.set_cons_succ]))
                go_ret
                exact Keep.intro ⟨by rw [hdec.out]; rfl, hX⟩
              · have t9 : decide (n < b.slot) = false := by simpa using h9
                have hdec := hide_ (show decide b.Right = false from decide_eq_false fun h => h9 (hpar.1 (hiff.1 h).2.1).2)
                clear hiff h7 h8 h9 hnum hpar hns'
                go_enter Try.func33, Try.ntmps33
                go_wp2_with ((first
                  | ((with_reducible refine at_box ?_); refine w_box _ [.int .i64 b.slot, .int .i64 b.miner, .int .i64 b.var, .int .i64 b.parent, u] rfl rfl rfl rfl ?_; intro g1 w1 hg1 hX f1)
                  | (go_at_call 53; refine (refTList_any (v := u) (hu.out.ext TxR.stays hX)).mono ?_; rintro e w4 ⟨v4, rfl, o4, hx⟩; rw [hle.out]; replace f1 := f1.ext hx; replace hX := hX.trans hx; clear hx o4)
                  | (go_at_call 54; refine (Parts_any b.parent hp.out.1 hp.out.2 _).mono ?_; rintro e w5 ⟨rfl, hx⟩; rw [hok.out, hns.out]; replace f1 := f1.ext hx; replace hX := hX.trans hx; clear hx)
                  | ((with_reducible refine at_field ?_); (try refine w_yes _ _ _ rfl rfl rfl ?_); refine w_field Try.stBlk _ _ _ rfl rfl rfl (by omega) ?_)
                  | ((with_reducible refine at_load ?_); (try refine w_yes _ _ _ rfl rfl rfl ?_); refine w_aload Try.stBlk _ rfl rfl rfl f1 rfl ?_)
                  | ((with_reducible refine at_load ?_); (try refine w_yes _ _ _ rfl rfl rfl ?_); refine w_fload _ rfl rfl rfl f1 rfl (agg_of (by kernel_rfl)) ?_)
                  | fail) <;> (try simp only [Act.put, List.setIfInBounds_toArray, List.set_cons_zero, List.set_cons_succ]))
                go_ret
                exact Keep.intro ⟨by rw [hdec.out]; rfl, hX⟩
            · have t6 : decide (255 < b.var) = true := by simp; omega
              have hdec := hide_ (show decide b.Right = false from decide_eq_false fun h => h6 (by obtain ⟨⟨⟨_, _⟩, ⟨_, _⟩, ⟨_, _⟩⟩, _, _⟩ := hiff.1 h; assumption))
              clear hiff h1 h2 h3 h4 h5 h6
              go_enter Try.func33, Try.ntmps33
              go_wp2_with ((first
                | ((with_reducible refine at_box ?_); refine w_box _ [.int .i64 b.slot, .int .i64 b.miner, .int .i64 b.var, .int .i64 b.parent, u] rfl rfl rfl rfl ?_; intro g1 w1 hg1 hX f1)
                | ((with_reducible refine at_field ?_); (try refine w_yes _ _ _ rfl rfl rfl ?_); refine w_field Try.stBlk _ _ _ rfl rfl rfl (by omega) ?_)
                | ((with_reducible refine at_load ?_); (try refine w_yes _ _ _ rfl rfl rfl ?_); refine w_fload _ rfl rfl rfl f1 rfl (agg_of (by kernel_rfl)) ?_)
                | fail) <;> (try simp only [Act.put, List.setIfInBounds_toArray, List.set_cons_zero, List.set_cons_succ]))
              go_ret
              exact Keep.intro ⟨by rw [hdec.out]; rfl, hX⟩
          · have t5 : decide (b.var < 0) = true := by simp; omega
            have hdec := hide_ (show decide b.Right = false from decide_eq_false fun h => h5 (by obtain ⟨⟨⟨_, _⟩, ⟨_, _⟩, ⟨_, _⟩⟩, _, _⟩ := hiff.1 h; assumption))
            clear hiff h1 h2 h3 h4 h5
            go_enter Try.func33, Try.ntmps33
            go_wp2_with ((first
              | ((with_reducible refine at_box ?_); refine w_box _ [.int .i64 b.slot, .int .i64 b.miner, .int .i64 b.var, .int .i64 b.parent, u] rfl rfl rfl rfl ?_; intro g1 w1 hg1 hX f1)
              | ((with_reducible refine at_field ?_); (try refine w_yes _ _ _ rfl rfl rfl ?_); refine w_field Try.stBlk _ _ _ rfl rfl rfl (by omega) ?_)
              | ((with_reducible refine at_load ?_); (try refine w_yes _ _ _ rfl rfl rfl ?_); refine w_fload _ rfl rfl rfl f1 rfl (agg_of (by kernel_rfl)) ?_)
              | fail) <;> (try simp only [Act.put, List.setIfInBounds_toArray, List.set_cons_zero, List.set_cons_succ]))
            go_ret
            exact Keep.intro ⟨by rw [hdec.out]; rfl, hX⟩
        · have t4 : decide (6 < b.miner) = true := by simp; omega
          have hdec := hide_ (show decide b.Right = false from decide_eq_false fun h => h4 (by obtain ⟨⟨⟨_, _⟩, ⟨_, _⟩, ⟨_, _⟩⟩, _, _⟩ := hiff.1 h; assumption))
          clear hiff h1 h2 h3 h4
          go_enter Try.func33, Try.ntmps33
          go_wp2_with ((first
            | ((with_reducible refine at_box ?_); refine w_box _ [.int .i64 b.slot, .int .i64 b.miner, .int .i64 b.var, .int .i64 b.parent, u] rfl rfl rfl rfl ?_; intro g1 w1 hg1 hX f1)
            | ((with_reducible refine at_field ?_); (try refine w_yes _ _ _ rfl rfl rfl ?_); refine w_field Try.stBlk _ _ _ rfl rfl rfl (by omega) ?_)
            | ((with_reducible refine at_load ?_); (try refine w_yes _ _ _ rfl rfl rfl ?_); refine w_fload _ rfl rfl rfl f1 rfl (agg_of (by kernel_rfl)) ?_)
            | fail) <;> (try simp only [Act.put, List.setIfInBounds_toArray, List.set_cons_zero, List.set_cons_succ]))
          go_ret
          exact Keep.intro ⟨by rw [hdec.out]; rfl, hX⟩
      · have t3 : decide (b.miner < 0) = true := by simp; omega
        have hdec := hide_ (show decide b.Right = false from decide_eq_false fun h => h3 (by obtain ⟨⟨⟨_, _⟩, ⟨_, _⟩, ⟨_, _⟩⟩, _, _⟩ := hiff.1 h; assumption))
        clear hiff h1 h2 h3
        go_enter Try.func33, Try.ntmps33
        go_wp2_with ((first
          | ((with_reducible refine at_box ?_); refine w_box _ [.int .i64 b.slot, .int .i64 b.miner, .int .i64 b.var, .int .i64 b.parent, u] rfl rfl rfl rfl ?_; intro g1 w1 hg1 hX f1)
          | ((with_reducible refine at_field ?_); (try refine w_yes _ _ _ rfl rfl rfl ?_); refine w_field Try.stBlk _ _ _ rfl rfl rfl (by omega) ?_)
          | ((with_reducible refine at_load ?_); (try refine w_yes _ _ _ rfl rfl rfl ?_); refine w_fload _ rfl rfl rfl f1 rfl (agg_of (by kernel_rfl)) ?_)
          | fail) <;> (try simp only [Act.put, List.setIfInBounds_toArray, List.set_cons_zero, List.set_cons_succ]))
        go_ret
        exact Keep.intro ⟨by rw [hdec.out]; rfl, hX⟩
    · have t2 : decide (4095 < b.slot) = true := by simp; omega
      have hdec := hide_ (show decide b.Right = false from decide_eq_false fun h => h2 (by obtain ⟨⟨⟨_, _⟩, ⟨_, _⟩, ⟨_, _⟩⟩, _, _⟩ := hiff.1 h; assumption))
      clear hiff h1 h2
      go_enter Try.func33, Try.ntmps33
      go_wp2_with ((first
        | ((with_reducible refine at_box ?_); refine w_box _ [.int .i64 b.slot, .int .i64 b.miner, .int .i64 b.var, .int .i64 b.parent, u] rfl rfl rfl rfl ?_; intro g1 w1 hg1 hX f1)
        | ((with_reducible refine at_field ?_); (try refine w_yes _ _ _ rfl rfl rfl ?_); refine w_field Try.stBlk _ _ _ rfl rfl rfl (by omega) ?_)
        | ((with_reducible refine at_load ?_); (try refine w_yes _ _ _ rfl rfl rfl ?_); refine w_fload _ rfl rfl rfl f1 rfl (agg_of (by kernel_rfl)) ?_)
        | fail) <;> (try simp only [Act.put, List.setIfInBounds_toArray, List.set_cons_zero, List.set_cons_succ]))
      go_ret
      exact Keep.intro ⟨by rw [hdec.out]; rfl, hX⟩
  · have t1 : decide (b.slot < 1) = true := by simp; omega
    have hdec := hide_ (show decide b.Right = false from decide_eq_false fun h => h1 (by obtain ⟨⟨⟨_, _⟩, ⟨_, _⟩, ⟨_, _⟩⟩, _, _⟩ := hiff.1 h; assumption))
    clear hiff h1
    go_enter Try.func33, Try.ntmps33
    go_wp2_with ((first
      | ((with_reducible refine at_box ?_); refine w_box _ [.int .i64 b.slot, .int .i64 b.miner, .int .i64 b.var, .int .i64 b.parent, u] rfl rfl rfl rfl ?_; intro g1 w1 hg1 hX f1)
      | ((with_reducible refine at_field ?_); (try refine w_yes _ _ _ rfl rfl rfl ?_); refine w_field Try.stBlk _ _ _ rfl rfl rfl (by omega) ?_)
      | ((with_reducible refine at_load ?_); (try refine w_yes _ _ _ rfl rfl rfl ?_); refine w_fload _ rfl rfl rfl f1 rfl (agg_of (by kernel_rfl)) ?_)
      | fail) <;> (try simp only [Act.put, List.setIfInBounds_toArray, List.set_cons_zero, List.set_cons_succ]))
    go_ret
    exact Keep.intro ⟨by rw [hdec.out]; rfl, hX⟩

set_option maxRecDepth 100000 in
set_option maxHeartbeats 800000 in
theorem refBName_any {w : World} {u : Value} {b : BlkD} (hu0 : Recs 2 TxR w u b.txs) (hp : I64 b.parent) : Calls Try.prog 17 #[.agg #[.int .i64 b.slot, .int .i64 b.miner, .int .i64 b.var, .int .i64 b.parent, u]] w fun e w' => e = .returned (.int .i64 b.name) ∧ Ext w w' := by
  refine calls_keep ?_
  have hu := hide_ hu0
  replace hp := hide_ hp
  by_cases h : b.Right
  · have hdec := hide_ (decide_eq_true h)
    obtain ⟨⟨h1, h2⟩, ⟨h3, h4⟩, ⟨h5, h6⟩, _, _⟩ := h
    have hnm := hide_ (show b.name = (b.slot * 256 + b.miner) * 256 + b.var from by rw [BlkD.name, if_pos (by simpa using hdec.out), BlkD.nm])
    go_enter Try.func17, Try.ntmps17
    go_wp2_with ((first
      | ((with_reducible refine at_box ?_); refine w_box _ [.int .i64 b.slot, .int .i64 b.miner, .int .i64 b.var, .int .i64 b.parent, u] rfl rfl rfl rfl ?_; intro g1 w1 hg1 hX f1)
      | (go_at_call 33; refine (refBRight_any (b := b) (hu.out.ext TxR.stays hX) hp.out).mono ?_; rintro e w2 ⟨rfl, hx⟩; rw [hdec.out]; replace f1 := f1.ext hx; replace hX := hX.trans hx; clear hx)
      | ((with_reducible refine at_field ?_); (try refine w_yes _ _ _ rfl rfl rfl ?_); refine w_field Try.stBlk _ _ _ rfl rfl rfl (by omega) ?_)
      | ((with_reducible refine at_load ?_); (try refine w_yes _ _ _ rfl rfl rfl ?_); refine w_aload Try.stBlk _ rfl rfl rfl f1 rfl ?_)
      | ((with_reducible refine at_load ?_); (try refine w_yes _ _ _ rfl rfl rfl ?_); refine w_fload _ rfl rfl rfl f1 rfl (agg_of (by kernel_rfl)) ?_)
      | fail) <;> (try simp only [Act.put, List.setIfInBounds_toArray, List.set_cons_zero, List.set_cons_succ]))
    go_ret
    exact Keep.intro ⟨by rw [hnm.out]; rfl, hX⟩
  · have hdec := hide_ (decide_eq_false h)
    have hnm := hide_ (show b.name = 0 from by rw [BlkD.name, if_neg h])
    clear h
    go_enter Try.func17, Try.ntmps17
    go_wp2_with ((first
      | ((with_reducible refine at_box ?_); refine w_box _ [.int .i64 b.slot, .int .i64 b.miner, .int .i64 b.var, .int .i64 b.parent, u] rfl rfl rfl rfl ?_; intro g1 w1 hg1 hX f1)
      | (go_at_call 33; refine (refBRight_any (b := b) (hu.out.ext TxR.stays hX) hp.out).mono ?_; rintro e w2 ⟨rfl, hx⟩; rw [hdec.out]; replace f1 := f1.ext hx; replace hX := hX.trans hx; clear hx)
      | ((with_reducible refine at_field ?_); (try refine w_yes _ _ _ rfl rfl rfl ?_); refine w_field Try.stBlk _ _ _ rfl rfl rfl (by omega) ?_)
      | ((with_reducible refine at_load ?_); (try refine w_yes _ _ _ rfl rfl rfl ?_); refine w_aload Try.stBlk _ rfl rfl rfl f1 rfl ?_)
      | ((with_reducible refine at_load ?_); (try refine w_yes _ _ _ rfl rfl rfl ?_); refine w_fload _ rfl rfl rfl f1 rfl (agg_of (by kernel_rfl)) ?_)
      | fail) <;> (try simp only [Act.put, List.setIfInBounds_toArray, List.set_cons_zero, List.set_cons_succ]))
    go_ret
    exact Keep.intro ⟨by rw [hnm.out]; rfl, hX⟩
end Go.Proofs.Ytgbhbifdfcfamaa
namespace Go.Proofs.Ytgbhbifdfcfamaa
set_option maxRecDepth 100000
open Go.RowKit

set_option maxRecDepth 100000 in
set_option maxHeartbeats 1600000 in
theorem SEqual_any {W : World} {a b : Value} {l m : List TxD} (ha0 : Recs 2 TxR W a l) (hb0 : Recs 2 TxR W b m) :
    Calls Try.prog 81 #[a, b] W fun e w' => e = .returned (.bool (decide (l = m))) ∧ Ext W w' := by
  refine calls_keep ?_
  have hmax : l.length ≤ 9223372036854775807 := by have := ha0.len_le; unfold maxLen at this; omega
  have ha := hide_ ha0
  have hb := hide_ hb0
  clear ha0 hb0
  by_cases hlm : l.length = m.length
  rotate_left
  · have t1 : ((l.length : Int) == (m.length : Int)) = false := by rw [beq_eq_false_iff_ne]; omega
    have hno := hide_ (show decide (l = m) = false from decide_eq_false fun h => hlm (by rw [h]))
    clear hlm
    go_enter Try.func81, Try.ntmps81
    go_wp2_with ((first
      | (refine w_rlen Try.elTx _ rfl rfl (v := a) rfl ha.out ?_)
      | (refine w_rlen Try.elTx _ rfl rfl (v := b) rfl hb.out ?_)
      | fail) <;> (try simp only [Act.put, List.setIfInBounds_toArray, List.set_cons_zero, List.set_cons_succ]))
    go_ret
    exact Keep.intro ⟨by rw [hno.out]; rfl, Ext.refl _⟩
  have t1 : ((l.length : Int) == (m.length : Int)) = true := by rw [beq_iff_eq]; omega
  replace hlm := hide_ hlm
  go_enter Try.func81, Try.ntmps81
  go_wp2_with ((first
    | (refine w_rlen Try.elTx _ rfl rfl (v := a) rfl ha.out ?_)
    | (refine w_rlen Try.elTx _ rfl rfl (v := b) rfl hb.out ?_)
    | fail) <;> (try simp only [Act.put, List.setIfInBounds_toArray, List.set_cons_zero, List.set_cons_succ]))
  go_loopw [13] (fun i wr => ∃ k : Nat, i = .int .i64 k ∧ k ≤ l.length ∧ Hid (l.take k = m.take k) ∧ Ext W wr) (fun i _ => l.length - (intOf i).toNat)
  case atStart => exact ⟨0, rfl, Nat.zero_le _, hide_ rfl, Ext.refl _⟩
  case round =>
    obtain ⟨k, rfl, hk, heq, hX⟩ := hrel
    by_cases hge : l.length ≤ k
    · obtain rfl : k = l.length := by omega
      have t2 : decide (l.length < l.length) = false := by simp
      have hyes := hide_ (show decide (l = m) = true from decide_eq_true (by have := heq.out; rw [List.take_length] at this; rw [hlm.out, List.take_length] at this; exact this))
      clear hge heq
      go_wp2
      go_ret
      exact Keep.intro ⟨by rw [hyes.out]; rfl, hX⟩
    have hlt : k < l.length := by omega
    have t2 : decide (k < l.length) = true := by simpa using hlt
    obtain ⟨d, hd0⟩ : ∃ d, l[k]? = some d := ⟨_, List.getElem?_eq_getElem hlt⟩
    obtain ⟨d2, hd20⟩ : ∃ d2, m[k]? = some d2 := ⟨_, List.getElem?_eq_getElem (by have := hlm.out; omega)⟩
    have hd := hide_ hd0
    have hd2 := hide_ hd20
    clear hge hd0 hd20
    by_cases hdd : d = d2
    · have hc := hide_ (show (!decide (d = d2)) = false from by simp [hdd])
      have heq2 := hide_ (show l.take (k + 1) = m.take (k + 1) from by rw [List.take_add_one, List.take_add_one, heq.out, hd.out, hd2.out, hdd])
      clear heq hdd
      go_wp2
      refine wp_region_phx (by kernel_rfl) ?_; intro wd hxd; have ha1 := ha.out.ext TxR.stays (hX.trans hxd); have hb1 := hb.out.ext TxR.stays (hX.trans hxd)
      refine Ph.rest 0 9 (by kernel_rfl) ?_
      refine LinL.step (s := (.val (a))) [(0, none)] rfl (by kernel_rfl) (op_out 0 (a) rfl (.inl rfl) rfl) ?_
      refine LinL.step (s := (.val (.int .i64 (k : Nat)))) [(5, none)] rfl (by kernel_rfl) (op_out 5 (.int .i64 (k : Nat)) rfl (.inl rfl) rfl) ?_
      refine LinL.step (s := (Sp.recp 2 TxR TxR.stays d)) [(16, some 1), (17, some 0)] rfl (by kernel_rfl) (op_runs rfl fun σ w' hx hg => rridx (ρ := σ.eval) (w := w') TxR.stays Try.elTx (.tmp 16) (.tmp 17) k rfl hg.1 hg.2.1 (ha1.ext TxR.stays hx) hd.out) ?_
      refine LinL.step (s := (Sp.recv TxR TxR.stays d)) [(18, some 0)] rfl (by kernel_rfl) (op_runs rfl fun σ w' hx hg => rrload (ρ := σ.eval) (w := w') TxR.stays Try.stTx (.tmp 18) rfl hg.1) ?_
      refine LinL.step (s := (.val (b))) [(1, none)] rfl (by kernel_rfl) (op_out 1 (b) rfl (.inl rfl) rfl) ?_
      refine LinL.step (s := (.val (.int .i64 (k : Nat)))) [(5, none)] rfl (by kernel_rfl) (op_out 5 (.int .i64 (k : Nat)) rfl (.inl rfl) rfl) ?_
      refine LinL.step (s := (Sp.recp 2 TxR TxR.stays d2)) [(20, some 1), (21, some 0)] rfl (by kernel_rfl) (op_runs rfl fun σ w' hx hg => rridx (ρ := σ.eval) (w := w') TxR.stays Try.elTx (.tmp 20) (.tmp 21) k rfl hg.1 hg.2.1 (hb1.ext TxR.stays hx) hd2.out) ?_
      refine LinL.step (s := (Sp.recv TxR TxR.stays d2)) [(22, some 0)] rfl (by kernel_rfl) (op_runs rfl fun σ w' hx hg => rrload (ρ := σ.eval) (w := w') TxR.stays Try.stTx (.tmp 22) rfl hg.1) ?_
      refine LinL.step (s := (.val (.bool false))) [(19, some 4), (23, some 0)] rfl (by kernel_rfl) (op_runs rfl fun σ w' hx hg => rtxne (ρ := σ.eval) (w := w') (.tmp 19) (.tmp 23) rfl hg.1 hg.2.1 hc.out) ?_
      intro wN hxN
      simp only [Fin', Sp.recp, Sp.recv, List.reverse_cons, List.reverse_nil, List.nil_append, List.cons_append, List.drop_zero, List.take_succ_cons, List.take_zero]
      intro q18 hq18 q19 hq19 q22 hq22 q23 hq23
      simp only [Act.put, List.setIfInBounds_toArray, List.set_cons_zero, List.set_cons_succ]
      replace hX := hX.trans (hxd.trans hxN)
      clear hxd hxN ha1 hb1 hq18 hq19 hq22 hq23
      go_wp2
      go_roundw
      case rel => exact ⟨k + 1, by go_num, by omega, heq2, hX⟩
      case measure => simp [intOf]; omega
    · have hc := hide_ (show (!decide (d = d2)) = true from by simp [hdd])
      have hno := hide_ (show decide (l = m) = false from decide_eq_false fun h => hdd (by subst h; have := hd.out.symm.trans hd2.out; injection this))
      clear heq hdd
      go_wp2
      refine wp_region_phx (by kernel_rfl) ?_; intro wd hxd; have ha1 := ha.out.ext TxR.stays (hX.trans hxd); have hb1 := hb.out.ext TxR.stays (hX.trans hxd)
      refine Ph.rest 0 9 (by kernel_rfl) ?_
      refine LinL.step (s := (.val (a))) [(0, none)] rfl (by kernel_rfl) (op_out 0 (a) rfl (.inl rfl) rfl) ?_
      refine LinL.step (s := (.val (.int .i64 (k : Nat)))) [(5, none)] rfl (by kernel_rfl) (op_out 5 (.int .i64 (k : Nat)) rfl (.inl rfl) rfl) ?_
      refine LinL.step (s := (Sp.recp 2 TxR TxR.stays d)) [(16, some 1), (17, some 0)] rfl (by kernel_rfl) (op_runs rfl fun σ w' hx hg => rridx (ρ := σ.eval) (w := w') TxR.stays Try.elTx (.tmp 16) (.tmp 17) k rfl hg.1 hg.2.1 (ha1.ext TxR.stays hx) hd.out) ?_
      refine LinL.step (s := (Sp.recv TxR TxR.stays d)) [(18, some 0)] rfl (by kernel_rfl) (op_runs rfl fun σ w' hx hg => rrload (ρ := σ.eval) (w := w') TxR.stays Try.stTx (.tmp 18) rfl hg.1) ?_
      refine LinL.step (s := (.val (b))) [(1, none)] rfl (by kernel_rfl) (op_out 1 (b) rfl (.inl rfl) rfl) ?_
      refine LinL.step (s := (.val (.int .i64 (k : Nat)))) [(5, none)] rfl (by kernel_rfl) (op_out 5 (.int .i64 (k : Nat)) rfl (.inl rfl) rfl) ?_
      refine LinL.step (s := (Sp.recp 2 TxR TxR.stays d2)) [(20, some 1), (21, some 0)] rfl (by kernel_rfl) (op_runs rfl fun σ w' hx hg => rridx (ρ := σ.eval) (w := w') TxR.stays Try.elTx (.tmp 20) (.tmp 21) k rfl hg.1 hg.2.1 (hb1.ext TxR.stays hx) hd2.out) ?_
      refine LinL.step (s := (Sp.recv TxR TxR.stays d2)) [(22, some 0)] rfl (by kernel_rfl) (op_runs rfl fun σ w' hx hg => rrload (ρ := σ.eval) (w := w') TxR.stays Try.stTx (.tmp 22) rfl hg.1) ?_
      refine LinL.step (s := (.val (.bool true))) [(19, some 4), (23, some 0)] rfl (by kernel_rfl) (op_runs rfl fun σ w' hx hg => rtxne (ρ := σ.eval) (w := w') (.tmp 19) (.tmp 23) rfl hg.1 hg.2.1 hc.out) ?_
      intro wN hxN
      simp only [Fin', Sp.recp, Sp.recv, List.reverse_cons, List.reverse_nil, List.nil_append, List.cons_append, List.drop_zero, List.take_succ_cons, List.take_zero]
      intro q18 hq18 q19 hq19 q22 hq22 q23 hq23
      simp only [Act.put, List.setIfInBounds_toArray, List.set_cons_zero, List.set_cons_succ]
      replace hX := hX.trans (hxd.trans hxN)
      go_wp2
      go_ret
      exact Keep.intro ⟨by rw [hno.out]; rfl, hX⟩

def BlkD.same (a b : BlkD) : Bool := a.slot == b.slot && a.miner == b.miner && a.var == b.var && a.parent == b.parent && decide (a.txs = b.txs)
theorem BlkD.same_iff {a b : BlkD} : a.same b = true ↔ a = b := by
  cases a; cases b; simp [BlkD.same, and_assoc]
theorem BlkD.same_self (a : BlkD) : a.same a = true := BlkD.same_iff.2 rfl
theorem Recs.one' {α : Type} {n : Nat} {R : World → List Value → α → Prop} {w : World} {v : Value} {l : List α} (h : Recs n R w v l) : v.oneCell' = true := by
  obtain ⟨_, ⟨A, c, rfl, _⟩, _⟩ := h; rfl
theorem blk_one {a b c d : Int} {v : Value} (h : v.oneCell' = true) : ∀ u ∈ [Value.int .i64 a, .int .i64 b, .int .i64 c, .int .i64 d, v], u.oneCell' = true := by
  intro u hu; simp at hu; rcases hu with rfl | rfl | rfl | rfl | rfl
  · rfl
  · rfl
  · rfl
  · rfl
  · exact h
set_option maxRecDepth 100000 in
set_option maxHeartbeats 1600000 in
theorem BSame_any {w : World} {u u2 : Value} {b b2 : BlkD} (h1 : Recs 2 TxR w u b.txs) (h2 : Recs 2 TxR w u2 b2.txs) : Calls Try.prog 76 #[.agg #[.int .i64 b.slot, .int .i64 b.miner, .int .i64 b.var, .int .i64 b.parent, u], .agg #[.int .i64 b2.slot, .int .i64 b2.miner, .int .i64 b2.var, .int .i64 b2.parent, u2]] w fun e w' => e = .returned (.bool (b.same b2)) ∧ Ext w w' := by
  refine calls_keep ?_
  replace h1 := hide_ h1
  replace h2 := hide_ h2
  cases c0 : (b.slot == b2.slot)
  · have hdec := hide_ (show b.same b2 = false from by simp [BlkD.same, c0])
    go_enter Try.func76, Try.ntmps76
    go_wp2_with ((first
      | ((with_reducible refine at_box ?_); refine w_box (.tmp 0) [.int .i64 b.slot, .int .i64 b.miner, .int .i64 b.var, .int .i64 b.parent, u] rfl rfl rfl rfl ?_; intro g1 w1 hg1 hX f1)
      | ((with_reducible refine at_box ?_); refine w_box (.tmp 1) [.int .i64 b2.slot, .int .i64 b2.miner, .int .i64 b2.var, .int .i64 b2.parent, u2] rfl rfl rfl rfl ?_; intro g2 w2 hg2 hx f2; replace f1 := f1.ext hx; replace hX := hX.trans hx; clear hx)
      | ((with_reducible refine at_field ?_); (try refine w_yes _ _ _ rfl rfl rfl ?_); refine w_field Try.stBlk _ _ _ rfl rfl rfl (by omega) ?_)
      | ((with_reducible refine at_load ?_); (try refine w_yes _ _ _ rfl rfl rfl ?_); refine w_fload _ rfl rfl rfl f1 rfl (agg_of (by kernel_rfl)) ?_)
      | ((with_reducible refine at_load ?_); (try refine w_yes _ _ _ rfl rfl rfl ?_); refine w_fload _ rfl rfl rfl f2 rfl (agg_of (by kernel_rfl)) ?_)
      | fail) <;> (try simp only [Act.put, List.setIfInBounds_toArray, List.set_cons_zero, List.set_cons_succ]))
    go_ret
    exact Keep.intro ⟨by rw [hdec.out]; rfl, hX⟩
  cases c1 : (b.miner == b2.miner)
  · have hdec := hide_ (show b.same b2 = false from by simp [BlkD.same, c1])
    go_enter Try.func76, Try.ntmps76
    go_wp2_with ((first
      | ((with_reducible refine at_box ?_); refine w_box (.tmp 0) [.int .i64 b.slot, .int .i64 b.miner, .int .i64 b.var, .int .i64 b.parent, u] rfl rfl rfl rfl ?_; intro g1 w1 hg1 hX f1)
      | ((with_reducible refine at_box ?_); refine w_box (.tmp 1) [.int .i64 b2.slot, .int .i64 b2.miner, .int .i64 b2.var, .int .i64 b2.parent, u2] rfl rfl rfl rfl ?_; intro g2 w2 hg2 hx f2; replace f1 := f1.ext hx; replace hX := hX.trans hx; clear hx)
      | ((with_reducible refine at_field ?_); (try refine w_yes _ _ _ rfl rfl rfl ?_); refine w_field Try.stBlk _ _ _ rfl rfl rfl (by omega) ?_)
      | ((with_reducible refine at_load ?_); (try refine w_yes _ _ _ rfl rfl rfl ?_); refine w_fload _ rfl rfl rfl f1 rfl (agg_of (by kernel_rfl)) ?_)
      | ((with_reducible refine at_load ?_); (try refine w_yes _ _ _ rfl rfl rfl ?_); refine w_fload _ rfl rfl rfl f2 rfl (agg_of (by kernel_rfl)) ?_)
      | fail) <;> (try simp only [Act.put, List.setIfInBounds_toArray, List.set_cons_zero, List.set_cons_succ]))
    go_ret
    exact Keep.intro ⟨by rw [hdec.out]; rfl, hX⟩
  cases c2 : (b.var == b2.var)
  · have hdec := hide_ (show b.same b2 = false from by simp [BlkD.same, c2])
    go_enter Try.func76, Try.ntmps76
    go_wp2_with ((first
      | ((with_reducible refine at_box ?_); refine w_box (.tmp 0) [.int .i64 b.slot, .int .i64 b.miner, .int .i64 b.var, .int .i64 b.parent, u] rfl rfl rfl rfl ?_; intro g1 w1 hg1 hX f1)
      | ((with_reducible refine at_box ?_); refine w_box (.tmp 1) [.int .i64 b2.slot, .int .i64 b2.miner, .int .i64 b2.var, .int .i64 b2.parent, u2] rfl rfl rfl rfl ?_; intro g2 w2 hg2 hx f2; replace f1 := f1.ext hx; replace hX := hX.trans hx; clear hx)
      | ((with_reducible refine at_field ?_); (try refine w_yes _ _ _ rfl rfl rfl ?_); refine w_field Try.stBlk _ _ _ rfl rfl rfl (by omega) ?_)
      | ((with_reducible refine at_load ?_); (try refine w_yes _ _ _ rfl rfl rfl ?_); refine w_fload _ rfl rfl rfl f1 rfl (agg_of (by kernel_rfl)) ?_)
      | ((with_reducible refine at_load ?_); (try refine w_yes _ _ _ rfl rfl rfl ?_); refine w_fload _ rfl rfl rfl f2 rfl (agg_of (by kernel_rfl)) ?_)
      | fail) <;> (try simp only [Act.put, List.setIfInBounds_toArray, List.set_cons_zero, List.set_cons_succ]))
    go_ret
    exact Keep.intro ⟨by rw [hdec.out]; rfl, hX⟩
  cases c3 : (b.parent == b2.parent)
  · have hdec := hide_ (show b.same b2 = false from by simp [BlkD.same, c3])
    go_enter Try.func76, Try.ntmps76
    go_wp2_with ((first
      | ((with_reducible refine at_box ?_); refine w_box (.tmp 0) [.int .i64 b.slot, .int .i64 b.miner, .int .i64 b.var, .int .i64 b.parent, u] rfl rfl rfl rfl ?_; intro g1 w1 hg1 hX f1)
      | ((with_reducible refine at_box ?_); refine w_box (.tmp 1) [.int .i64 b2.slot, .int .i64 b2.miner, .int .i64 b2.var, .int .i64 b2.parent, u2] rfl rfl rfl rfl ?_; intro g2 w2 hg2 hx f2; replace f1 := f1.ext hx; replace hX := hX.trans hx; clear hx)
      | ((with_reducible refine at_field ?_); (try refine w_yes _ _ _ rfl rfl rfl ?_); refine w_field Try.stBlk _ _ _ rfl rfl rfl (by omega) ?_)
      | ((with_reducible refine at_load ?_); (try refine w_yes _ _ _ rfl rfl rfl ?_); refine w_fload _ rfl rfl rfl f1 rfl (agg_of (by kernel_rfl)) ?_)
      | ((with_reducible refine at_load ?_); (try refine w_yes _ _ _ rfl rfl rfl ?_); refine w_fload _ rfl rfl rfl f2 rfl (agg_of (by kernel_rfl)) ?_)
      | fail) <;> (try simp only [Act.put, List.setIfInBounds_toArray, List.set_cons_zero, List.set_cons_succ]))
    go_ret
    exact Keep.intro ⟨by rw [hdec.out]; rfl, hX⟩
  obtain ⟨q, hq0⟩ : ∃ q, decide (b.txs = b2.txs) = q := ⟨_, rfl⟩
  have hdec := hide_ (show b.same b2 = q from by simp [BlkD.same, c0, c1, c2, c3, hq0])
  have hq := hide_ hq0
  clear hq0
  go_enter Try.func76, Try.ntmps76
  go_wp2_with ((first
    | ((with_reducible refine at_box ?_); refine w_box (.tmp 0) [.int .i64 b.slot, .int .i64 b.miner, .int .i64 b.var, .int .i64 b.parent, u] rfl rfl rfl rfl ?_; intro g1 w1 hg1 hX f1)
    | ((with_reducible refine at_box ?_); refine w_box (.tmp 1) [.int .i64 b2.slot, .int .i64 b2.miner, .int .i64 b2.var, .int .i64 b2.parent, u2] rfl rfl rfl rfl ?_; intro g2 w2 hg2 hx f2; replace f1 := f1.ext hx; replace hX := hX.trans hx; clear hx)
    | (go_at_call 81; refine (SEqual_any (a := u) (b := u2) (h1.out.ext TxR.stays hX) (h2.out.ext TxR.stays hX)).mono ?_; rintro e w3 ⟨rfl, hx⟩; rw [hq.out]; replace hX := hX.trans hx; clear hx)
    | ((with_reducible refine at_field ?_); (try refine w_yes _ _ _ rfl rfl rfl ?_); refine w_field Try.stBlk _ _ _ rfl rfl rfl (by omega) ?_)
    | ((with_reducible refine at_load ?_); (try refine w_yes _ _ _ rfl rfl rfl ?_); refine w_fload _ rfl rfl rfl f1 rfl (agg_of (by kernel_rfl)) ?_)
    | ((with_reducible refine at_load ?_); (try refine w_yes _ _ _ rfl rfl rfl ?_); refine w_fload _ rfl rfl rfl f2 rfl (agg_of (by kernel_rfl)) ?_)
    | fail) <;> (try simp only [Act.put, List.setIfInBounds_toArray, List.set_cons_zero, List.set_cons_succ]))
  go_ret
  exact Keep.intro ⟨by rw [hdec.out]; rfl, hX⟩

set_option maxRecDepth 100000 in
set_option maxHeartbeats 1600000 in
theorem refBSame_any {w : World} {u u2 : Value} {b b2 : BlkD} (h1 : Recs 2 TxR w u b.txs) (h2 : Recs 2 TxR w u2 b2.txs) : Calls Try.prog 18 #[.agg #[.int .i64 b.slot, .int .i64 b.miner, .int .i64 b.var, .int .i64 b.parent, u], .agg #[.int .i64 b2.slot, .int .i64 b2.miner, .int .i64 b2.var, .int .i64 b2.parent, u2]] w fun e w' => e = .returned (.bool (b.same b2)) ∧ Ext w w' := by
  refine calls_keep ?_
  replace h1 := hide_ h1
  replace h2 := hide_ h2
  cases c0 : (b.slot == b2.slot)
  · have hdec := hide_ (show b.same b2 = false from by simp [BlkD.same, c0])
    go_enter Try.func18, Try.ntmps18
    go_wp2_with ((first
      | ((with_reducible refine at_box ?_); refine w_box (.tmp 0) [.int .i64 b.slot, .int .i64 b.miner, .int .i64 b.var, .int .i64 b.parent, u] rfl rfl rfl rfl ?_; intro g1 w1 hg1 hX f1)
      | ((with_reducible refine at_box ?_); refine w_box (.tmp 1) [.int .i64 b2.slot, .int .i64 b2.miner, .int .i64 b2.var, .int .i64 b2.parent, u2] rfl rfl rfl rfl ?_; intro g2 w2 hg2 hx f2; replace f1 := f1.ext hx; replace hX := hX.trans hx; clear hx)
      | ((with_reducible refine at_field ?_); (try refine w_yes _ _ _ rfl rfl rfl ?_); refine w_field Try.stBlk _ _ _ rfl rfl rfl (by omega) ?_)
      | ((with_reducible refine at_load ?_); (try refine w_yes _ _ _ rfl rfl rfl ?_); refine w_fload _ rfl rfl rfl f1 rfl (agg_of (by kernel_rfl)) ?_)
      | ((with_reducible refine at_load ?_); (try refine w_yes _ _ _ rfl rfl rfl ?_); refine w_fload _ rfl rfl rfl f2 rfl (agg_of (by kernel_rfl)) ?_)
      | fail) <;> (try simp only [Act.put, List.setIfInBounds_toArray, List.set_cons_zero, List.set_cons_succ]))
    go_ret
    exact Keep.intro ⟨by rw [hdec.out]; rfl, hX⟩
  cases c1 : (b.miner == b2.miner)
  · have hdec := hide_ (show b.same b2 = false from by simp [BlkD.same, c1])
    go_enter Try.func18, Try.ntmps18
    go_wp2_with ((first
      | ((with_reducible refine at_box ?_); refine w_box (.tmp 0) [.int .i64 b.slot, .int .i64 b.miner, .int .i64 b.var, .int .i64 b.parent, u] rfl rfl rfl rfl ?_; intro g1 w1 hg1 hX f1)
      | ((with_reducible refine at_box ?_); refine w_box (.tmp 1) [.int .i64 b2.slot, .int .i64 b2.miner, .int .i64 b2.var, .int .i64 b2.parent, u2] rfl rfl rfl rfl ?_; intro g2 w2 hg2 hx f2; replace f1 := f1.ext hx; replace hX := hX.trans hx; clear hx)
      | ((with_reducible refine at_field ?_); (try refine w_yes _ _ _ rfl rfl rfl ?_); refine w_field Try.stBlk _ _ _ rfl rfl rfl (by omega) ?_)
      | ((with_reducible refine at_load ?_); (try refine w_yes _ _ _ rfl rfl rfl ?_); refine w_fload _ rfl rfl rfl f1 rfl (agg_of (by kernel_rfl)) ?_)
      | ((with_reducible refine at_load ?_); (try refine w_yes _ _ _ rfl rfl rfl ?_); refine w_fload _ rfl rfl rfl f2 rfl (agg_of (by kernel_rfl)) ?_)
      | fail) <;> (try simp only [Act.put, List.setIfInBounds_toArray, List.set_cons_zero, List.set_cons_succ]))
    go_ret
    exact Keep.intro ⟨by rw [hdec.out]; rfl, hX⟩
  cases c2 : (b.var == b2.var)
  · have hdec := hide_ (show b.same b2 = false from by simp [BlkD.same, c2])
    go_enter Try.func18, Try.ntmps18
    go_wp2_with ((first
      | ((with_reducible refine at_box ?_); refine w_box (.tmp 0) [.int .i64 b.slot, .int .i64 b.miner, .int .i64 b.var, .int .i64 b.parent, u] rfl rfl rfl rfl ?_; intro g1 w1 hg1 hX f1)
      | ((with_reducible refine at_box ?_); refine w_box (.tmp 1) [.int .i64 b2.slot, .int .i64 b2.miner, .int .i64 b2.var, .int .i64 b2.parent, u2] rfl rfl rfl rfl ?_; intro g2 w2 hg2 hx f2; replace f1 := f1.ext hx; replace hX := hX.trans hx; clear hx)
      | ((with_reducible refine at_field ?_); (try refine w_yes _ _ _ rfl rfl rfl ?_); refine w_field Try.stBlk _ _ _ rfl rfl rfl (by omega) ?_)
      | ((with_reducible refine at_load ?_); (try refine w_yes _ _ _ rfl rfl rfl ?_); refine w_fload _ rfl rfl rfl f1 rfl (agg_of (by kernel_rfl)) ?_)
      | ((with_reducible refine at_load ?_); (try refine w_yes _ _ _ rfl rfl rfl ?_); refine w_fload _ rfl rfl rfl f2 rfl (agg_of (by kernel_rfl)) ?_)
      | fail) <;> (try simp only [Act.put, List.setIfInBounds_toArray, List.set_cons_zero, List.set_cons_succ]))
    go_ret
    exact Keep.intro ⟨by rw [hdec.out]; rfl, hX⟩
  cases c3 : (b.parent == b2.parent)
  · have hdec := hide_ (show b.same b2 = false from by simp [BlkD.same, c3])
    go_enter Try.func18, Try.ntmps18
    go_wp2_with ((first
      | ((with_reducible refine at_box ?_); refine w_box (.tmp 0) [.int .i64 b.slot, .int .i64 b.miner, .int .i64 b.var, .int .i64 b.parent, u] rfl rfl rfl rfl ?_; intro g1 w1 hg1 hX f1)
      | ((with_reducible refine at_box ?_); refine w_box (.tmp 1) [.int .i64 b2.slot, .int .i64 b2.miner, .int .i64 b2.var, .int .i64 b2.parent, u2] rfl rfl rfl rfl ?_; intro g2 w2 hg2 hx f2; replace f1 := f1.ext hx; replace hX := hX.trans hx; clear hx)
      | ((with_reducible refine at_field ?_); (try refine w_yes _ _ _ rfl rfl rfl ?_); refine w_field Try.stBlk _ _ _ rfl rfl rfl (by omega) ?_)
      | ((with_reducible refine at_load ?_); (try refine w_yes _ _ _ rfl rfl rfl ?_); refine w_fload _ rfl rfl rfl f1 rfl (agg_of (by kernel_rfl)) ?_)
      | ((with_reducible refine at_load ?_); (try refine w_yes _ _ _ rfl rfl rfl ?_); refine w_fload _ rfl rfl rfl f2 rfl (agg_of (by kernel_rfl)) ?_)
      | fail) <;> (try simp only [Act.put, List.setIfInBounds_toArray, List.set_cons_zero, List.set_cons_succ]))
    go_ret
    exact Keep.intro ⟨by rw [hdec.out]; rfl, hX⟩
  obtain ⟨q, hq0⟩ : ∃ q, decide (b.txs = b2.txs) = q := ⟨_, rfl⟩
  have hdec := hide_ (show b.same b2 = q from by simp [BlkD.same, c0, c1, c2, c3, hq0])
  have hq := hide_ hq0
  clear hq0
  go_enter Try.func18, Try.ntmps18
  go_wp2_with ((first
    | ((with_reducible refine at_box ?_); refine w_box (.tmp 0) [.int .i64 b.slot, .int .i64 b.miner, .int .i64 b.var, .int .i64 b.parent, u] rfl rfl rfl rfl ?_; intro g1 w1 hg1 hX f1)
    | ((with_reducible refine at_box ?_); refine w_box (.tmp 1) [.int .i64 b2.slot, .int .i64 b2.miner, .int .i64 b2.var, .int .i64 b2.parent, u2] rfl rfl rfl rfl ?_; intro g2 w2 hg2 hx f2; replace f1 := f1.ext hx; replace hX := hX.trans hx; clear hx)
    | (go_at_call 34; refine (Same_any (a := u) (b := u2) (h1.out.ext TxR.stays hX) (h2.out.ext TxR.stays hX)).mono ?_; rintro e w3 ⟨rfl, hx⟩; rw [hq.out]; replace hX := hX.trans hx; clear hx)
    | ((with_reducible refine at_field ?_); (try refine w_yes _ _ _ rfl rfl rfl ?_); refine w_field Try.stBlk _ _ _ rfl rfl rfl (by omega) ?_)
    | ((with_reducible refine at_load ?_); (try refine w_yes _ _ _ rfl rfl rfl ?_); refine w_fload _ rfl rfl rfl f1 rfl (agg_of (by kernel_rfl)) ?_)
    | ((with_reducible refine at_load ?_); (try refine w_yes _ _ _ rfl rfl rfl ?_); refine w_fload _ rfl rfl rfl f2 rfl (agg_of (by kernel_rfl)) ?_)
    | fail) <;> (try simp only [Act.put, List.setIfInBounds_toArray, List.set_cons_zero, List.set_cons_succ]))
  go_ret
  exact Keep.intro ⟨by rw [hdec.out]; rfl, hX⟩

theorem BlkD.Right.rdb4 {b : BlkD} (h : b.Right) : Rdb [b.slot, b.miner, b.var, b.parent] := fun x hx => h.rdb x (List.mem_append_left _ hx)
set_option maxRecDepth 100000 in
set_option maxHeartbeats 1600000 in
theorem BBytes_any {w : World} {u : Value} {b : BlkD} (hu0 : Recs 2 TxR w u b.txs) (hp : I64 b.parent) : Calls Try.prog 68 #[.agg #[.int .i64 b.slot, .int .i64 b.miner, .int .i64 b.var, .int .i64 b.parent, u]] w fun e w' => ∃ v', e = .returned (.tuple #[v', .int .i64 (bE b : Nat)]) ∧ OwnB w.heap.size w' v' (bB b) ∧ Ext w w' := by
  refine calls_keep ?_
  have hu := hide_ hu0
  replace hp := hide_ hp
  by_cases h : b.Right
  · have hdec := hide_ (decide_eq_true h)
    have hrd := hide_ h.rdb4
    have hle := hide_ (show tlE b.txs = 0 from if_pos h.t)
    have hlb := hide_ (show tlB b.txs = lsB b.txs from if_pos h.t)
    have e1 := hide_ (show bE b = 0 from if_pos h)
    have e2 := hide_ (show bB b = nuL [b.slot, b.miner, b.var, b.parent] ++ lsB b.txs from (if_pos h).trans b.bytes_eq)
    have hbig := hide_ (show (nuL [b.slot, b.miner, b.var, b.parent]).length + (lsB b.txs).length ≤ 140737488355328 from by
      have := BlkD.bytes_len h
      rw [b.bytes_eq, List.length_append] at this; omega)
    clear h
    go_enter Try.func68, Try.ntmps68
    go_wp2_with ((first
      | ((with_reducible refine at_box ?_); refine w_box _ [.int .i64 b.slot, .int .i64 b.miner, .int .i64 b.var, .int .i64 b.parent, u] rfl rfl rfl rfl ?_; intro g1 w1 hg1 hX f1)
      | (go_at_call 64; refine (BRight_any (b := b) (hu.out.ext TxR.stays hX) hp.out).mono ?_; rintro e w2 ⟨rfl, hx⟩; rw [hdec.out]; replace f1 := f1.ext hx; replace hX := hX.trans hx; clear hx)
      | (go_at_call 77; refine (Nums_yes hrd.out (by simp) o2.ints).mono ?_; rintro e w4 ⟨v3, rfl, o3, hx⟩; replace o3 := o3.mono hX.size; replace f1 := f1.ext hx; replace hX := hX.trans hx; clear o2 hx)
      | (go_at_call 73; refine (TList_any (v := u) (hu.out.ext TxR.stays hX)).mono ?_; rintro e w5 ⟨v8, rfl, o8, hx⟩; rw [hle.out]; rw [hlb.out] at o8; have b8 := o8.byt; replace o3 := o3.ext hx; replace f1 := f1.ext hx; replace hX := hX.trans hx; clear hx o8)
      | ((with_reducible refine at_lit ?_); refine w_new Try.elI (i64s [b.slot, b.miner, b.var, b.parent]) rfl rfl rfl (i64s_cells _) rfl (by omega) ?_; intro v2 w3 hx3 o2; replace o2 : OwnI _ w3 v2 [b.slot, b.miner, b.var, b.parent] := o2; replace f1 := f1.ext hx3; replace hX := hX.trans hx3; clear hx3)
      | ((with_reducible refine at_bi ?_); refine appb _ _ rfl rfl rfl rfl o3 b8 hbig.out hX.size ?_; intro v9 w9 o9 hb9 hg9; replace hX := hX.trans' hb9; replace o3 := o9; clear b8 hb9 hg9 o9)
      | ((with_reducible refine at_field ?_); (try refine w_yes _ _ _ rfl rfl rfl ?_); refine w_field Try.stBlk _ _ _ rfl rfl rfl (by omega) ?_)
      | ((with_reducible refine at_load ?_); (try refine w_yes _ _ _ rfl rfl rfl ?_); refine w_aload Try.stBlk _ rfl rfl rfl f1 rfl ?_)
      | ((with_reducible refine at_load ?_); (try refine w_yes _ _ _ rfl rfl rfl ?_); refine w_fload _ rfl rfl rfl f1 rfl (agg_of (by kernel_rfl)) ?_)
      | fail) <;> (try simp only [Act.put, List.setIfInBounds_toArray, List.set_cons_zero, List.set_cons_succ]))
    go_ret2
    exact Keep.intro ⟨_, by rw [e1.out]; rfl, by rw [e2.out]; exact o3, hX⟩
  · have hdec := hide_ (decide_eq_false h)
    have e1 := hide_ (show bE b = 71 from if_neg h)
    have e2 := hide_ (show bB b = [] from if_neg h)
    clear h
    go_enter Try.func68, Try.ntmps68
    go_wp2_with ((first
      | ((with_reducible refine at_box ?_); refine w_box _ [.int .i64 b.slot, .int .i64 b.miner, .int .i64 b.var, .int .i64 b.parent, u] rfl rfl rfl rfl ?_; intro g1 w1 hg1 hX f1)
      | (go_at_call 64; refine (BRight_any (b := b) (hu.out.ext TxR.stays hX) hp.out).mono ?_; rintro e w2 ⟨rfl, hx⟩; rw [hdec.out]; replace f1 := f1.ext hx; replace hX := hX.trans hx; clear hx)
      | ((with_reducible refine at_load ?_); (try refine w_yes _ _ _ rfl rfl rfl ?_); refine w_aload Try.stBlk _ rfl rfl rfl f1 rfl ?_)
      | fail) <;> (try simp only [Act.put, List.setIfInBounds_toArray, List.set_cons_zero, List.set_cons_succ]))
    go_ret2
    exact Keep.intro ⟨_, by rw [e1.out]; rfl, by rw [e2.out]; exact OwnB.nil _ _, hX⟩

set_option maxRecDepth 100000 in
set_option maxHeartbeats 1600000 in
theorem refBBytes_any {w : World} {u : Value} {b : BlkD} (hu0 : Recs 2 TxR w u b.txs) (hp : I64 b.parent) : Calls Try.prog 38 #[.agg #[.int .i64 b.slot, .int .i64 b.miner, .int .i64 b.var, .int .i64 b.parent, u]] w fun e w' => ∃ v', e = .returned (.tuple #[v', .int .i64 (bE b : Nat)]) ∧ OwnB w.heap.size w' v' (bB b) ∧ Ext w w' := by
  refine calls_keep ?_
  have hu := hide_ hu0
  replace hp := hide_ hp
  by_cases h : b.Right
  · have hdec := hide_ (decide_eq_true h)
    have hrd := hide_ h.rdb4
    have hle := hide_ (show tlE b.txs = 0 from if_pos h.t)
    have hlb := hide_ (show tlB b.txs = lsB b.txs from if_pos h.t)
    have e1 := hide_ (show bE b = 0 from if_pos h)
    have e2 := hide_ (show bB b = nuL [b.slot, b.miner, b.var, b.parent] ++ lsB b.txs from (if_pos h).trans b.bytes_eq)
    have hbig := hide_ (show (nuL [b.slot, b.miner, b.var, b.parent]).length + (lsB b.txs).length ≤ 140737488355328 from by
      have := BlkD.bytes_len h
      rw [b.bytes_eq, List.length_append] at this; omega)
    clear h
    go_enter Try.func38, Try.ntmps38
    go_wp2_with ((first
      | ((with_reducible refine at_box ?_); refine w_box _ [.int .i64 b.slot, .int .i64 b.miner, .int .i64 b.var, .int .i64 b.parent, u] rfl rfl rfl rfl ?_; intro g1 w1 hg1 hX f1)
      | (go_at_call 33; refine (refBRight_any (b := b) (hu.out.ext TxR.stays hX) hp.out).mono ?_; rintro e w2 ⟨rfl, hx⟩; rw [hdec.out]; replace f1 := f1.ext hx; replace hX := hX.trans hx; clear hx)
      | (go_at_call 36; refine (refNums_yes hrd.out (by simp) o2.ints).mono ?_; rintro e w4 ⟨v3, rfl, o3, hx⟩; replace o3 := o3.mono hX.size; replace f1 := f1.ext hx; replace hX := hX.trans hx; clear o2 hx)
      | (go_at_call 53; refine (refTList_any (v := u) (hu.out.ext TxR.stays hX)).mono ?_; rintro e w5 ⟨v8, rfl, o8, hx⟩; rw [hle.out]; rw [hlb.out] at o8; have b8 := o8.byt; replace o3 := o3.ext hx; replace f1 := f1.ext hx; replace hX := hX.trans hx; clear hx o8)
      | ((with_reducible refine at_lit ?_); refine w_new Try.elI (i64s [b.slot, b.miner, b.var, b.parent]) rfl rfl rfl (i64s_cells _) rfl (by omega) ?_; intro v2 w3 hx3 o2; replace o2 : OwnI _ w3 v2 [b.slot, b.miner, b.var, b.parent] := o2; replace f1 := f1.ext hx3; replace hX := hX.trans hx3; clear hx3)
      | ((with_reducible refine at_bi ?_); refine appb _ _ rfl rfl rfl rfl o3 b8 hbig.out hX.size ?_; intro v9 w9 o9 hb9 hg9; replace hX := hX.trans' hb9; replace o3 := o9; clear b8 hb9 hg9 o9)
      | ((with_reducible refine at_field ?_); (try refine w_yes _ _ _ rfl rfl rfl ?_); refine w_field Try.stBlk _ _ _ rfl rfl rfl (by omega) ?_)
      | ((with_reducible refine at_load ?_); (try refine w_yes _ _ _ rfl rfl rfl ?_); refine w_aload Try.stBlk _ rfl rfl rfl f1 rfl ?_)
      | ((with_reducible refine at_load ?_); (try refine w_yes _ _ _ rfl rfl rfl ?_); refine w_fload _ rfl rfl rfl f1 rfl (agg_of (by kernel_rfl)) ?_)
      | fail) <;> (try simp only [Act.put, List.setIfInBounds_toArray, List.set_cons_zero, List.set_cons_succ]))
    go_ret2
    exact Keep.intro ⟨_, by rw [e1.out]; rfl, by rw [e2.out]; exact o3, hX⟩
  · have hdec := hide_ (decide_eq_false h)
    have e1 := hide_ (show bE b = 71 from if_neg h)
    have e2 := hide_ (show bB b = [] from if_neg h)
    clear h
    go_enter Try.func38, Try.ntmps38
    go_wp2_with ((first
      | ((with_reducible refine at_box ?_); refine w_box _ [.int .i64 b.slot, .int .i64 b.miner, .int .i64 b.var, .int .i64 b.parent, u] rfl rfl rfl rfl ?_; intro g1 w1 hg1 hX f1)
      | (go_at_call 33; refine (refBRight_any (b := b) (hu.out.ext TxR.stays hX) hp.out).mono ?_; rintro e w2 ⟨rfl, hx⟩; rw [hdec.out]; replace f1 := f1.ext hx; replace hX := hX.trans hx; clear hx)
      | ((with_reducible refine at_load ?_); (try refine w_yes _ _ _ rfl rfl rfl ?_); refine w_aload Try.stBlk _ rfl rfl rfl f1 rfl ?_)
      | fail) <;> (try simp only [Act.put, List.setIfInBounds_toArray, List.set_cons_zero, List.set_cons_succ]))
    go_ret2
    exact Keep.intro ⟨_, by rw [e1.out]; rfl, by rw [e2.out]; exact OwnB.nil _ _, hX⟩


end Go.Proofs.Ytgbhbifdfcfamaa
namespace Go.Proofs.Ytgbhbifdfcfamaa
set_option maxRecDepth 100000
open Go.RowKit

/-! ### A copy -/
theorem recs_rows {w : World} {v : Value} {l : List TxD} (h : Recs 2 TxR w v l) : SlS w v 2 (l.map TxD.row) ∧ ∀ t ∈ l, t.Raw := by
  obtain ⟨rows, hs, hl, hR⟩ := id h
  have e : rows = l.map TxD.row := by
    refine List.ext_getElem (by simpa using hl) fun k h1 h2 => ?_
    obtain ⟨h3, _⟩ := hR k _ _ (List.getElem?_eq_getElem h1) (List.getElem?_eq_getElem (by omega))
    rw [h3, List.getElem_map]; rfl
  exact ⟨e ▸ hs, recs_ok_of h fun _ _ _ h => h.2⟩
theorem row_one {l : List TxD} : ∀ y ∈ l.map TxD.row, ∀ u ∈ y, u.oneCell' = true := by
  intro y hy
  obtain ⟨t, _, rfl⟩ := List.mem_map.1 hy
  exact t.one

end Go.Proofs.Ytgbhbifdfcfamaa
