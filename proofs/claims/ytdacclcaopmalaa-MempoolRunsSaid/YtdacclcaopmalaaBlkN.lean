/- Blocks, their names and their bytes, as plain mathematics. No program. -/
import Derived.Test.YtdacclcaopmalaaFM
namespace Go.Proofs.Ytdacclcaopmalaa
set_option maxRecDepth 100000

/-- The slot, the miner, the variant of a name. -/
structure NmOk (n : Int) : Prop where
  pos : 0 ≤ n
  s1 : 1 ≤ n / 65536
  s2 : n / 65536 ≤ 4095
  m : n / 256 % 256 ≤ 6
instance (n : Int) : Decidable (NmOk n) := decidable_of_iff (0 ≤ n ∧ 1 ≤ n / 65536 ∧ n / 65536 ≤ 4095 ∧ n / 256 % 256 ≤ 6) ⟨fun ⟨a, b, c, d⟩ => ⟨a, b, c, d⟩, fun ⟨a, b, c, d⟩ => ⟨a, b, c, d⟩⟩
structure BlkD where
  slot : Int
  miner : Int
  var : Int
  parent : Int
  txs : List TxD
namespace BlkD
structure Right (b : BlkD) : Prop where
  s : 1 ≤ b.slot ∧ b.slot ≤ 4095
  m : 0 ≤ b.miner ∧ b.miner ≤ 6
  v : 0 ≤ b.var ∧ b.var ≤ 255
  p : b.parent = 0 ∨ (NmOk b.parent ∧ b.parent / 65536 < b.slot)
  t : LsOk b.txs
instance (b : BlkD) : Decidable b.Right := decidable_of_iff ((1 ≤ b.slot ∧ b.slot ≤ 4095) ∧ (0 ≤ b.miner ∧ b.miner ≤ 6) ∧ (0 ≤ b.var ∧ b.var ≤ 255) ∧ (b.parent = 0 ∨ (NmOk b.parent ∧ b.parent / 65536 < b.slot)) ∧ LsOk b.txs)
  ⟨fun ⟨a, b, c, d, e⟩ => ⟨a, b, c, d, e⟩, fun ⟨a, b, c, d, e⟩ => ⟨a, b, c, d, e⟩⟩
def nm (b : BlkD) : Int := (b.slot * 256 + b.miner) * 256 + b.var
def name (b : BlkD) : Int := if b.Right then b.nm else 0
theorem Right.parts {b : BlkD} (h : b.Right) : b.nm / 65536 = b.slot ∧ b.nm / 256 % 256 = b.miner ∧ b.nm % 256 = b.var ∧ NmOk b.nm := by
  obtain ⟨⟨h1, h2⟩, ⟨h3, h4⟩, ⟨h5, h6⟩, _, _⟩ := h
  unfold nm
  exact ⟨by omega, by omega, by omega, ⟨by omega, by omega, by omega, by omega⟩⟩
/-- Two that are right have one name just if they have one slot, one miner, one variant. -/
theorem nm_inj {a b : BlkD} (ha : a.Right) (hb : b.Right) : a.nm = b.nm ↔ a.slot = b.slot ∧ a.miner = b.miner ∧ a.var = b.var := by
  constructor
  · intro h
    have h1 := ha.parts; have h2 := hb.parts
    rw [h] at h1
    exact ⟨h1.1.symm.trans h2.1, h1.2.1.symm.trans h2.2.1, h1.2.2.1.symm.trans h2.2.2.1⟩
  · rintro ⟨h1, h2, h3⟩
    unfold nm; rw [h1, h2, h3]
theorem Right.parent_lt {b : BlkD} (h : b.Right) : b.parent < b.nm := by
  obtain ⟨⟨h1, h2⟩, ⟨h3, h4⟩, ⟨h5, h6⟩, h7, _⟩ := h
  unfold nm
  rcases h7 with h7 | ⟨h7, h8⟩
  · omega
  · have := h7.pos; omega
def nums (b : BlkD) : List Int := [b.slot, b.miner, b.var, b.parent] ++ lsNums b.txs
def bytes (b : BlkD) : List Nat := nuL b.nums
theorem bytes_eq (b : BlkD) : b.bytes = nuL [b.slot, b.miner, b.var, b.parent] ++ lsB b.txs := nuL_app _ _
theorem Right.rdb {b : BlkD} (h : b.Right) : Rdb b.nums := by
  obtain ⟨⟨h1, h2⟩, ⟨h3, h4⟩, ⟨h5, h6⟩, h7, h8⟩ := h
  intro x hx
  rcases List.mem_append.1 hx with hx | hx
  · simp at hx
    rcases hx with rfl | rfl | rfl | rfl
    · omega
    · omega
    · omega
    · rcases h7 with h7 | ⟨⟨h9, h10, h11, _⟩, _⟩ <;> omega
  · exact h8.rdb x hx
theorem nums_len (b : BlkD) : b.nums.length = 5 + 2 * b.txs.length := by simp [nums, lsNums, txNums_len]; omega
theorem nums_inj {a b : BlkD} (h : a.nums = b.nums) : a = b := by
  cases a; cases b
  simp only [nums, List.cons_append, List.nil_append, List.cons.injEq, lsNums] at h
  obtain ⟨rfl, rfl, rfl, rfl, _, h⟩ := h
  rw [txNums_inj h]
/-- How many numbers there are is said by the fifth. -/
theorem nums_say {a b : BlkD} {s : List Int} (h : a.nums = b.nums ++ s) : s = [] := by
  have h1 := congrArg List.length h
  rw [List.length_append, nums_len, nums_len] at h1
  have h2 : a.nums[4]? = (b.nums ++ s)[4]? := by rw [h]
  rw [List.getElem?_append_left (by rw [nums_len]; omega)] at h2
  have h3 : a.nums[4]? = some (a.txs.length : Int) := rfl
  have h4 : b.nums[4]? = some (b.txs.length : Int) := rfl
  rw [h3, h4] at h2
  injection h2 with h2
  exact List.eq_nil_of_length_eq_zero (by omega)
end BlkD
/-- The bytes b are the block x's. -/
def IsBlk (b : List Nat) (x : BlkD) : Prop := x.Right ∧ b = x.bytes
theorem IsBlk.one {b : List Nat} {x y : BlkD} (h : IsBlk b x) (k : IsBlk b y) : x = y := BlkD.nums_inj (nuL_inj h.1.rdb k.1.rdb (h.2.symm.trans k.2))
/-- More numbers than there are can't be read. -/
theorem rns_nil : ∀ k, 0 < k → rns k [] = none
  | 0, h => by omega
  | k + 1, _ => rns_none (.inl (by
    cases hr : (rd []).2 with
    | zero => rfl
    | succ n =>
      exfalso
      obtain ⟨hp, hl, _⟩ := rd_some (l := []) (by simp) (by omega)
      have h1 := hp.length_le
      have h2 := numL_pos (rd []).1
      rw [List.length_nil] at h1
      omega))
theorem rns_more : ∀ (xs : List Int), Rdb xs → ∀ k, xs.length < k → rns k (nuL xs) = none
  | [], _, k, h => by simp [nuL]; exact rns_nil k (by simpa using h)
  | x :: xs, hx, 0, h => by simp at h
  | x :: xs, hx, k + 1, h => by
    have h0 := hx x (List.mem_cons_self ..)
    have hw : W64 (x + 1).toNat := by unfold W64; omega
    rw [nuL, rns_step (rd2_ne hw _) (by rw [rd_app hw]; simp; omega), rdRest_app hw, rns_more xs (fun y hy => hx y (List.mem_cons_of_mem _ hy)) k (by simp at h; omega)]
    rfl
/-- Numbers' bytes that other numbers' bytes begin with: those numbers begin with these. -/
theorem nuL_pre {xs ys : List Int} (hx : Rdb xs) (hy : Rdb ys) {s : List Nat} (h : nuL xs = nuL ys ++ s) : ∃ zs, xs = ys ++ zs ∧ s = nuL zs := by
  have e := rns_yes hy s
  rw [← h] at e
  rcases Nat.lt_or_ge xs.length ys.length with hl | hl
  · rw [rns_more xs hx _ hl] at e; cases e
  · have e2 := rns_few (xs := xs.take ys.length) (ys := xs.drop ys.length) (by rw [List.take_append_drop]; exact hx) []
    rw [List.take_append_drop, List.append_nil, List.append_nil, List.length_take, Nat.min_eq_left hl, e] at e2
    simp only [Option.some.injEq, Prod.mk.injEq] at e2
    refine ⟨xs.drop ys.length, ?_, e2.2⟩
    have h3 := List.take_append_drop ys.length xs
    rw [← e2.1] at h3; exact h3.symm
/-- A block's bytes, cut off anywhere, are no block's. -/
theorem blk_cut {x : BlkD} (hx : x.Right) {c : Nat} (hc : c < x.bytes.length) (y : BlkD) : ¬ IsBlk (x.bytes.take c) y := fun ⟨hy, he⟩ => by
  obtain ⟨zs, h1, h2⟩ := nuL_pre hx.rdb hy.rdb (s := x.bytes.drop c) (by
    show x.bytes = y.bytes ++ _
    rw [← he, List.take_append_drop])
  have h3 := BlkD.nums_say h1
  rw [h3] at h2
  have := congrArg List.length h2
  rw [List.length_drop] at this
  simp [nuL] at this; omega
/-- With more behind they are none either. -/
theorem blk_more {x : BlkD} (hx : x.Right) {s : List Nat} (hs : s ≠ []) (y : BlkD) : ¬ IsBlk (x.bytes ++ s) y := fun ⟨hy, he⟩ => by
  obtain ⟨zs, h1, h2⟩ := nuL_pre hy.rdb hx.rdb (s := s) he.symm
  have h3 := BlkD.nums_say h1
  rw [h3] at h2
  exact hs (by simpa [nuL] using h2)
/-- The block of bytes, as it is read: four numbers, a list's bytes. -/
theorem isBlk_of {b : List Nat} (hb : ∀ x ∈ b, x < 256) {p q r s : Int} {rest : List Nat} (h : rns 4 b = some ([p, q, r, s], rest)) {l : List TxD} (hl : IsLs rest l) (hr : (⟨p, q, r, s, l⟩ : BlkD).Right) : IsBlk b ⟨p, q, r, s, l⟩ := by
  obtain ⟨h1, _, _⟩ := rns_was 4 b _ _ hb h
  exact ⟨hr, by rw [BlkD.bytes_eq, h1, hl.2]⟩
theorem isBlk_rns {b : List Nat} {x : BlkD} (h : IsBlk b x) : rns 4 b = some ([x.slot, x.miner, x.var, x.parent], lsB x.txs) := by
  obtain ⟨hr, rfl⟩ := h
  have hd : Rdb [x.slot, x.miner, x.var, x.parent] := fun y hy => hr.rdb y (List.mem_append_left _ hy)
  rw [BlkD.bytes_eq]
  exact rns_yes hd _
end Go.Proofs.Ytdacclcaopmalaa
