/- Draws: who wins where, as plain mathematics. · The contracts of package lot: Check, Wins, Winners, Slots. Condition: but for Check, draws that can be. · The contracts of lot.Wins, Winners, Slots. Condition: draws that can be. · The contract of lot.Single. Condition: draws that can be. -/
import Derived.Test.YtpnbkgeglgiihaaFD
import Derived.Test.YtpnbkgeglgiihaaCont
import Derived.Test.YtpnbkgeglgiihaaFE
namespace Go.Proofs.Ytpnbkgeglgiihaa
set_option maxRecDepth 100000
open Go.RowKit

/-- Draws that can be. -/
def DrOk (l : List Int) : Prop := l.length ≤ 200 ∧ ∀ x ∈ l, 0 ≤ x ∧ x ≤ 127
instance (l : List Int) : Decidable (DrOk l) := by unfold DrOk; infer_instance
def lchk (l : List Int) : Int := if DrOk l then 0 else 101
/-- Does the bit of node n stand in d? -/
def bitN (d : Int) (n : Nat) : Bool := decide (d / 2 ^ n % 2 = 1)
/-- Does node n win at place i (slot i + 1)? -/
def wn (l : List Int) (i n : Nat) : Bool := match l[i]? with
  | some d => bitN d n
  | none => false
def win (l : List Int) (s n : Int) : Bool := decide (1 ≤ s ∧ s ≤ l.length ∧ 0 ≤ n ∧ n ≤ 6) && wn l (s - 1).toNat n.toNat
/-- The numbers below k, moved by c, of which p tells. -/
def pk (c : Nat) (p : Nat → Bool) : Nat → List Int
  | 0 => []
  | k + 1 => pk c p k ++ if p k then [((k + c : Nat) : Int)] else []
def wns (l : List Int) (s : Int) : List Int := pk 0 (fun n => win l s n) 7
def sls (l : List Int) (n : Int) : List Int := pk 1 (fun i => win l ((i + 1 : Nat) : Int) n) l.length
/-- At place i at most one wins, and one of who. -/
def good (l who : List Int) (i : Nat) : Prop := (wns l ((i + 1 : Nat) : Int)).length ≤ 1 ∧ ∀ x ∈ wns l ((i + 1 : Nat) : Int), x ∈ who
instance (l who : List Int) (i : Nat) : Decidable (good l who i) := by unfold good; infer_instance
def sgl (l who : List Int) : Bool := decide (∀ i, i < l.length → good l who i)

theorem pk_yes {c : Nat} {p : Nat → Bool} {k : Nat} (h : p k = true) : pk c p (k + 1) = pk c p k ++ [((k + c : Nat) : Int)] := by rw [pk, if_pos h]
theorem pk_no {c : Nat} {p : Nat → Bool} {k : Nat} (h : p k = false) : pk c p (k + 1) = pk c p k := by rw [pk, if_neg (by rw [h]; decide), List.append_nil]
theorem pk_len {c : Nat} {p : Nat → Bool} : ∀ k, (pk c p k).length ≤ k
  | 0 => Nat.le_refl _
  | k + 1 => by
    have := pk_len (c := c) (p := p) k
    rw [pk, List.length_append]; split <;> simp <;> omega
theorem pk_mem {c : Nat} {p : Nat → Bool} {x : Int} : ∀ {k : Nat}, x ∈ pk c p k ↔ ∃ i, i < k ∧ p i = true ∧ x = ((i + c : Nat) : Int)
  | 0 => by simp [pk]
  | k + 1 => by
    rw [pk, List.mem_append, pk_mem]
    constructor
    · rintro (⟨i, h1, h2, h3⟩ | h)
      · exact ⟨i, by omega, h2, h3⟩
      · split at h
        · rename_i hp
          exact ⟨k, by omega, hp, by simpa using h⟩
        · simp at h
    · rintro ⟨i, h1, h2, h3⟩
      by_cases e : i = k
      · subst e; right; rw [if_pos h2]; simpa using h3
      · exact .inl ⟨i, by omega, h2, h3⟩
theorem pk_congr {c : Nat} {p q : Nat → Bool} : ∀ {k : Nat}, (∀ i, i < k → p i = q i) → pk c p k = pk c q k
  | 0, _ => rfl
  | k + 1, h => by rw [pk, pk, pk_congr (fun i hi => h i (by omega)), h k (by omega)]
theorem pk_lenc {c c' : Nat} {p : Nat → Bool} : ∀ k, (pk c p k).length = (pk c' p k).length
  | 0 => rfl
  | k + 1 => by rw [pk, pk, List.length_append, List.length_append, pk_lenc (c := c) (c' := c') k]; split <;> rfl
theorem pk_count {c : Nat} {p : Nat → Bool} {i : Nat} : ∀ k, (pk c p k).count ((i + c : Nat) : Int) = if i < k ∧ p i = true then 1 else 0
  | 0 => by simp [pk]
  | k + 1 => by
    rw [pk, List.count_append, pk_count k]
    by_cases e : i = k
    · subst e
      rw [if_neg (by omega)]
      cases h : p i <;> simp
    · have h1 : (if p k = true then [((k + c : Nat) : Int)] else []).count ((i + c : Nat) : Int) = 0 := by
        split
        · rw [List.count_eq_zero]; simp; omega
        · rfl
      rw [h1, Nat.add_zero]
      have h2 : (i < k ∧ p i = true) ↔ (i < k + 1 ∧ p i = true) := ⟨fun h => ⟨by omega, h.2⟩, fun h => ⟨by omega, h.2⟩⟩
      simp only [h2]
/-- How many p tells of. -/
theorem pk_len_yes {c : Nat} {p : Nat → Bool} {k : Nat} : (pk c p (k + 1)).length = (pk c p k).length + if p k then 1 else 0 := by
  rw [pk, List.length_append]; split <;> rfl
theorem pk_or {c n : Nat} {p : Nat → Bool} : ∀ {k : Nat}, (pk c (fun i => i == n || p i) k).length = (pk c p k).length + if n < k ∧ p n = false then 1 else 0
  | 0 => by simp [pk]
  | k + 1 => by
    rw [pk_len_yes, pk_len_yes, pk_or (k := k)]
    by_cases e : n = k
    · subst e
      have h1 : ¬ (n < n ∧ p n = false) := by omega
      rw [if_neg h1]
      cases h : p n <;> simp
    · have h2 : (n < k ∧ p n = false) ↔ (n < k + 1 ∧ p n = false) := ⟨fun h => ⟨by omega, h.2⟩, fun h => ⟨by omega, h.2⟩⟩
      simp only [h2]
      have h3 : (k == n) = false := by simp; omega
      rw [h3, Bool.false_or]; omega

theorem DrOk.at {l : List Int} (h : DrOk l) {i : Nat} (hi : i < l.length) : 0 ≤ l[i] ∧ l[i] ≤ 127 := h.2 _ (List.getElem_mem hi)
theorem win_at {l : List Int} {i n : Nat} (hi : i < l.length) (hn : n < 7) : win l ((i : Int) + 1) (n : Int) = bitN l[i] n := by
  unfold win wn
  rw [decide_eq_true (by omega), Bool.true_and]
  have e1 : ((i : Int) + 1 - 1).toNat = i := by omega
  have e2 : ((n : Int)).toNat = n := by omega
  rw [e1, e2, List.getElem?_eq_getElem hi]
theorem win_out {l : List Int} {s n : Int} (h : ¬ (1 ≤ s ∧ s ≤ l.length ∧ 0 ≤ n ∧ n ≤ 6)) : win l s n = false := by
  unfold win; rw [decide_eq_false h, Bool.false_and]
theorem win_in {l : List Int} {s n : Int} (h : win l s n = true) : 1 ≤ s ∧ s ≤ l.length ∧ 0 ≤ n ∧ n ≤ 6 := by
  by_cases g : 1 ≤ s ∧ s ≤ l.length ∧ 0 ≤ n ∧ n ≤ 6
  · exact g
  · rw [win_out g] at h; cases h

/-! ### Bits -/
theorem and_bit (d k : Nat) (hd : d < 128) (hk : k < 7) : (bits .and .i64 (d : Int) ((2 ^ k : Nat) : Int) != 0) = bitN (d : Int) k := by
  have h : ∀ (d : Fin 128) (k : Fin 7), (bits .and .i64 (d.val : Int) ((2 ^ k.val : Nat) : Int) != 0) = bitN (d.val : Int) k.val := by decide +kernel
  exact h ⟨d, hd⟩ ⟨k, hk⟩
/-- d with the bit of n. -/
def orb (d : Int) (n : Nat) : Int := bits .or .i64 d ((2 ^ n : Nat) : Int)
theorem orb_ok {d : Int} {n : Nat} (h0 : 0 ≤ d) (h1 : d ≤ 127) (hn : n < 7) : 0 ≤ orb d n ∧ orb d n ≤ 127 := by
  have h : ∀ (d : Fin 128) (k : Fin 7), 0 ≤ orb (d.val : Int) k.val ∧ orb (d.val : Int) k.val ≤ 127 := by decide +kernel
  have := h ⟨d.toNat, by omega⟩ ⟨n, hn⟩
  simp only at this
  rwa [show ((d.toNat : Nat) : Int) = d from by omega] at this
theorem orb_bit {d : Int} {n k : Nat} (h0 : 0 ≤ d) (h1 : d ≤ 127) (hn : n < 7) (hk : k < 7) : bitN (orb d n) k = (k == n || bitN d k) := by
  have h : ∀ (d : Fin 128) (n k : Fin 7), bitN (orb (d.val : Int) n.val) k.val = (k.val == n.val || bitN (d.val : Int) k.val) := by decide +kernel
  have := h ⟨d.toNat, by omega⟩ ⟨n, hn⟩ ⟨k, hk⟩
  simp only at this
  rwa [show ((d.toNat : Nat) : Int) = d from by omega] at this
/-- Which numbers have bits beside the first seven. -/
theorem andNot_yes {d : Int} (h0 : 0 ≤ d) (h1 : d ≤ 127) : bits .andNot .i64 d 127 = 0 := by
  have h : ∀ d : Fin 128, bits .andNot .i64 (d.val : Int) 127 = 0 := by decide +kernel
  have := h ⟨d.toNat, by omega⟩
  simp only at this
  rwa [show ((d.toNat : Nat) : Int) = d from by omega] at this
theorem andNot_no {d : Int} (hlo : -9223372036854775808 ≤ d) (hhi : d ≤ 9223372036854775807) (h : bits .andNot .i64 d 127 = 0) : 0 ≤ d ∧ d ≤ 127 := by
  have e : bits .andNot .i64 d 127 = IntKind.i64.wrap ((BitVec.ofInt 64 d &&& ~~~(BitVec.ofInt 64 127)).toNat : Int) := rfl
  rw [e] at h
  obtain ⟨r, hr⟩ : ∃ r, r = BitVec.ofInt 64 d &&& ~~~(BitVec.ofInt 64 127) := ⟨_, rfl⟩
  rw [← hr] at h
  have hlt := r.isLt
  have hz : r.toNat = 0 := by
    simp [IntKind.wrap, IntKind.signed, IntKind.bits] at h
    omega
  have hr0 : r = 0#64 := BitVec.eq_of_toNat_eq (by rw [hz]; rfl)
  have hd : (BitVec.ofInt 64 d).toNat < 2 ^ 7 := by
    refine Nat.lt_pow_two_of_testBit _ fun i hi => ?_
    by_cases h64 : i < 64
    · have h2 : (BitVec.ofInt 64 d &&& ~~~(BitVec.ofInt 64 127)).getLsbD i = false := by rw [← hr, hr0]; simp
      rw [BitVec.getLsbD_and, BitVec.getLsbD_not] at h2
      have h3 : (BitVec.ofInt 64 127).getLsbD i = false := by
        rw [show BitVec.ofInt 64 127 = BitVec.ofNat 64 127 from rfl, BitVec.getLsbD_ofNat]
        have : Nat.testBit 127 i = false := Nat.testBit_lt_two_pow (Nat.lt_of_lt_of_le (by decide : 127 < 2 ^ 7) (Nat.pow_le_pow_right (by decide) hi))
        rw [this]; simp
      rw [h3] at h2
      simp only [h64, decide_true, Bool.not_false, Bool.and_true] at h2
      exact h2
    · exact Nat.testBit_lt_two_pow (Nat.lt_of_lt_of_le (BitVec.ofInt 64 d).isLt (Nat.pow_le_pow_right (by decide) (by omega)))
  rw [BitVec.toNat_ofInt] at hd
  omega
end Go.Proofs.Ytpnbkgeglgiihaa
namespace Go.Proofs.Ytpnbkgeglgiihaa
set_option maxRecDepth 100000
open Go.RowKit

/-- A variable of one cell. -/
theorem w_alloc1 {P : Program} {ops : Array Oper} {rest : List Oper} {o : Oper} {a : Act} {Q : Exit → Act → World → Prop} {w : World} {t : TypeId} {z : Value} (hi : (P.info? t).map (fun i => (i.zero, i.size)) = some (some z, 1)) (hz : z.cells = #[z]) (hgd : o.guard = none) (ho : o.op = .alloc t)
    (k : ∀ g w', w.heap.size ≤ g → Ext w w' → Fs w' g [z] → wpList P ops Q rest (a.put o.dst (.pointer (some ⟨g, 0, none⟩))) w') : wpList P ops Q (o :: rest) a w := by
  cases hq : P.info? t with
  | none => rw [hq] at hi; cases hi
  | some i0 =>
    rw [hq] at hi
    simp only [Option.map_some, Option.some.injEq, Prod.mk.injEq] at hi
    refine wpList_plain hgd fun K hK => ?_
    have hk := hK _ _ (k _ _ (Nat.le_refl _) ((Ext.refl w).alloc (.cells #[z] t)) (by simpa using Fs.alloc w #[z] t))
    unfold Oper.wp execOp
    simp [ho, Instr.alloc, newVar, newRow, zeroValue, typeInfo, hq, hi.1, hz]
    exact hk
/-- 1 << n -/
theorem runs_shl1 {P : Program} {o : Oper} {ρ : Operand → Value} {w : World} {k : Nat} {t t' : TypeId} (x : Operand) (ho : o.op = .binOp .shl t (.const (.int .i64 1)) x t') (hc : ρ (.const (.int .i64 1)) = .int .i64 1) (hx : ρ x = .int .i64 k) (hk : k < 7) : Runs P o ρ w (.int .i64 ((2 ^ k : Nat) : Int)) := by
  have hw : IntKind.i64.wrap (1 * 2 ^ k) = ((2 ^ k : Nat) : Int) := by
    have h : ∀ k : Fin 7, IntKind.i64.wrap (1 * 2 ^ k.val) = ((2 ^ k.val : Nat) : Int) := by decide +kernel
    exact h ⟨k, hk⟩
  unfold Runs execOp
  simp only [ho, hc, hx]
  simp [go_sem]
  simpa using hw
theorem runs_bits {P : Program} {o : Oper} {ρ : Operand → Value} {w : World} {t t' : TypeId} {op : BinOp} {m n : Int} (x y : Operand) (hop : op = .and ∨ op = .or) (ho : o.op = .binOp op t x y t') (hx : ρ x = .int .i64 m) (hy : ρ y = .int .i64 n) : Runs P o ρ w (.int .i64 (bits op .i64 m n)) := by
  unfold Runs execOp
  rcases hop with rfl | rfl <;> simp [ho, hx, hy, go_sem]
theorem runs_ne0 {P : Program} {o : Oper} {ρ : Operand → Value} {w : World} {t t' : TypeId} {m : Int} (x : Operand) (ho : o.op = .binOp .neq t x (.const (.int .i64 0)) t') (hx : ρ x = .int .i64 m) (hc : ρ (.const (.int .i64 0)) = .int .i64 0) : Runs P o ρ w (.bool (m != 0)) := by
  unfold Runs execOp
  simp [ho, hx, hc, go_sem]

/-! ### Check -/
set_option maxRecDepth 100000 in
set_option maxHeartbeats 1600000 in
theorem over_any {w : World} {g : Nat} {d : Int} (hlo : -9223372036854775808 ≤ d) (hhi : d ≤ 9223372036854775807) (f0 : Fs w g [.int .i64 127]) :
    Calls Try.prog 57 #[.int .i64 d, .pointer (some ⟨g, 0, none⟩)] w fun e w' => e = .returned (.bool (!decide (0 ≤ d ∧ d ≤ 127))) ∧ Ext w w' := by
  refine calls_keep ?_
  have hq : (bits .andNot .i64 d 127 != 0) = !decide (0 ≤ d ∧ d ≤ 127) := by
    by_cases h : 0 ≤ d ∧ d ≤ 127
    · rw [andNot_yes h.1 h.2, decide_eq_true h]; rfl
    · rw [decide_eq_false h, bne_iff_ne.2 fun e => h (andNot_no hlo hhi e)]; rfl
  obtain ⟨q, hq1⟩ : ∃ q, (!decide (0 ≤ d ∧ d ≤ 127)) = q := ⟨_, rfl⟩
  rw [hq1] at hq ⊢
  clear hq1
  go_enter Try.func57, Try.ntmps57
  go_wp2_with ((first
    | ((with_reducible refine at_load ?_); refine w_fload _ rfl rfl rfl f0 rfl (agg_of (by kernel_rfl)) ?_)
    | fail) <;> (try simp only [Act.put, List.setIfInBounds_toArray, List.set_cons_zero, List.set_cons_succ]))
  go_ret
  exact Keep.intro ⟨rfl, Ext.refl _⟩

/-- The first one that can't be. -/
def FirstN (q : Int → Bool) (l : List Int) (r : Int) : Prop := decide (0 ≤ r) = l.any q
set_option maxRecDepth 100000 in
set_option maxHeartbeats 3200000 in
theorem IndexFunc_over {w : World} {v : Value} {l : List Int} {g : Nat} (h0 : Ints w v l) (hI : I64s l) (f00 : Fs w g [.int .i64 127]) :
    Calls Try.prog 82 #[v, .func (.func 57) #[] #[.pointer (some ⟨g, 0, none⟩)]] w fun e w' => ∃ r : Int, e = .returned (.int .i64 r) ∧ decide (0 ≤ r) = (!decide (∀ x ∈ l, 0 ≤ x ∧ x ≤ 127)) ∧ Ext w w' := by
  refine calls_keep ?_
  have hmax : l.length ≤ 9223372036854775807 := by have := h0.len_le; unfold maxLen at this; omega
  replace h0 := hide_ h0
  have f0 := hide_ f00
  have hI' := hide_ hI
  clear f00 hI
  go_enter Try.func82, Try.ntmps82
  go_wp2_with ((first
    | ((with_reducible refine at_bi ?_); (try refine w_yes _ _ _ rfl rfl rfl ?_); refine i_len _ rfl rfl (v := v) rfl h0.out ?_)
    | fail) <;> (try simp only [Act.put, List.setIfInBounds_toArray, List.set_cons_zero, List.set_cons_succ]))
  go_loopw [8] (fun i wr => ∃ k : Nat, i = .int .i64 k ∧ k ≤ l.length ∧ Hid (∀ y ∈ l.take k, 0 ≤ y ∧ y ≤ 127) ∧ Ext w wr) (fun i _ => l.length - (RowKit.intOf i).toNat)
  case atStart => exact ⟨0, rfl, Nat.zero_le _, hide_ (by simp), Ext.refl _⟩
  case round =>
    obtain ⟨k, rfl, hk, hnt, hX⟩ := hrel
    by_cases hge : l.length ≤ k
    · obtain rfl : k = l.length := by omega
      have t2 : decide (l.length < l.length) = false := by simp
      rw [List.take_length] at hnt
      clear hge
      go_wp2
      go_ret
      exact Keep.intro ⟨-1, rfl, by rw [decide_eq_true hnt.out]; rfl, hX⟩
    have hlt : k < l.length := by omega
    have t2 : decide (k < l.length) = true := by simpa using hlt
    obtain ⟨x, hx0⟩ : ∃ x, l[k] = x := ⟨_, rfl⟩
    have hx := hide_ hx0
    have hxI := hide_ (hI'.out x (by rw [← hx0]; exact List.getElem_mem hlt))
    have e0 : l.take (k + 1) = l.take k ++ [x] := by rw [List.take_add_one, List.getElem?_eq_getElem hlt, hx0]; rfl
    have hlt' := hide_ hlt
    have hkb : k < 9223372036854775807 := by omega
    by_cases hc : 0 ≤ x ∧ x ≤ 127
    · have hnt2 := hide_ (show ∀ y ∈ l.take (k + 1), 0 ≤ y ∧ y ≤ 127 from by
        rw [e0]
        intro y hy
        rcases List.mem_append.1 hy with hy | hy
        · exact hnt.out y hy
        · simp only [List.mem_singleton] at hy; subst hy; exact hc)
      have hq := hide_ (show (!decide (0 ≤ x ∧ x ≤ 127)) = false from by rw [decide_eq_true hc]; rfl)
      clear hge hx0 e0 hnt hc
      go_wp2_with ((first
        | (go_at_call 57; refine (over_any (g := g) hxI.out.1 hxI.out.2 (f0.out.ext hX)).mono ?_; rintro e w4 ⟨rfl, hx⟩; rw [hq.out]; replace hX := hX.trans hx; clear hx)
        | ((with_reducible refine at_idx ?_); refine i_idx _ _ k rfl rfl rfl (h0.out.ext hX) rfl hlt'.out ?_; intro ad had; rw [hx.out] at had)
        | fail) <;> (try simp only [Act.put, List.setIfInBounds_toArray, List.set_cons_zero, List.set_cons_succ]))
      go_roundw
      case rel => exact ⟨k + 1, by go_num, hlt'.out, hnt2, hX⟩
      case measure => have := hlt'.out; simp [RowKit.intOf]; omega
    · have hin := hide_ (show ¬ ∀ y ∈ l, 0 ≤ y ∧ y ≤ 127 from fun h => hc (h x (by rw [← hx0]; exact List.getElem_mem hlt)))
      have hq := hide_ (show (!decide (0 ≤ x ∧ x ≤ 127)) = true from by rw [decide_eq_false hc]; rfl)
      clear hge hx0 e0 hnt hc
      go_wp2_with ((first
        | (go_at_call 57; refine (over_any (g := g) hxI.out.1 hxI.out.2 (f0.out.ext hX)).mono ?_; rintro e w4 ⟨rfl, hx⟩; rw [hq.out]; replace hX := hX.trans hx; clear hx)
        | ((with_reducible refine at_idx ?_); refine i_idx _ _ k rfl rfl rfl (h0.out.ext hX) rfl hlt'.out ?_; intro ad had; rw [hx.out] at had)
        | fail) <;> (try simp only [Act.put, List.setIfInBounds_toArray, List.set_cons_zero, List.set_cons_succ]))
      go_ret
      exact Keep.intro ⟨(k : Nat), rfl, by rw [decide_eq_false hin.out]; simp, hX⟩
set_option maxRecDepth 100000 in
set_option maxHeartbeats 1600000 in
theorem ContainsFunc_over {w : World} {v : Value} {l : List Int} {g : Nat} (h0 : Ints w v l) (hI : I64s l) (f00 : Fs w g [.int .i64 127]) :
    Calls Try.prog 56 #[v, .func (.func 57) #[] #[.pointer (some ⟨g, 0, none⟩)]] w fun e w' => e = .returned (.bool (!decide (∀ x ∈ l, 0 ≤ x ∧ x ≤ 127))) ∧ Ext w w' := by
  refine calls_keep ?_
  replace h0 := hide_ h0
  have f0 := hide_ f00
  have hI' := hide_ hI
  have hX := Ext.refl w
  obtain ⟨q, hq⟩ : ∃ q, (!decide (∀ x ∈ l, 0 ≤ x ∧ x ≤ 127)) = q := ⟨_, rfl⟩
  have hq' := hide_ hq
  rw [hq]
  clear hq f00 hI
  go_enter Try.func56, Try.ntmps56
  go_wp2_with (first
    | (go_at_call 82; refine (IndexFunc_over (g := g) (h0.out.ext hX) hI'.out (f0.out.ext hX)).mono ?_; rintro e w4 ⟨r, rfl, hr, hx⟩; rw [hq'.out] at hr; replace hX := hX.trans hx; clear hx)
    | fail)
  go_ret
  exact Keep.intro ⟨rfl, hX⟩
set_option maxRecDepth 100000 in
set_option maxHeartbeats 1600000 in
theorem Check_any {w : World} {v : Value} {l : List Int} (h0 : Ints w v l) (hI : I64s l) :
    Calls Try.prog 29 #[v] w fun e w' => e = .returned (.int .i64 (lchk l)) ∧ Ext w w' := by
  refine calls_keep ?_
  replace h0 := hide_ h0
  replace hI := hide_ hI
  by_cases h1 : 200 < l.length
  · have t1 : decide ((200 : Int) < (l.length : Int)) = true := by simp; omega
    have hc := hide_ (show lchk l = 101 from if_neg fun e => by have := e.1; omega)
    clear h1
    go_enter Try.func29, Try.ntmps29
    go_wp2_with ((first
      | ((with_reducible refine at_bi ?_); (try refine w_yes _ _ _ rfl rfl rfl ?_); refine i_len _ rfl rfl (v := v) rfl h0.out ?_)
      | fail) <;> (try simp only [Act.put, List.setIfInBounds_toArray, List.set_cons_zero, List.set_cons_succ]))
    go_ret
    exact Keep.intro ⟨by rw [hc.out]; rfl, Ext.refl _⟩
  have t1 : decide ((200 : Int) < (l.length : Int)) = false := by simp; omega
  by_cases h2 : ∀ x ∈ l, 0 ≤ x ∧ x ≤ 127
  · have hc := hide_ (show lchk l = 0 from if_pos ⟨by omega, h2⟩)
    have hq := hide_ (show (!decide (∀ x ∈ l, 0 ≤ x ∧ x ≤ 127)) = false from by rw [decide_eq_true h2]; rfl)
    clear h1 h2
    go_enter Try.func29, Try.ntmps29
    go_wp2_with ((first
      | (go_at_call 56; refine (ContainsFunc_over (g := g1) (h0.out.ext hX) hI.out f1).mono ?_; rintro e w4 ⟨rfl, hx⟩; rw [hq.out]; replace hX := hX.trans hx; clear hx)
      | ((with_reducible refine at_bi ?_); (try refine w_yes _ _ _ rfl rfl rfl ?_); refine i_len _ rfl rfl (v := v) rfl h0.out ?_)
      | ((with_reducible refine at_alloc ?_); refine w_alloc1 (z := .int .i64 0) (by kernel_rfl) rfl rfl rfl ?_; intro g1 w1 hg1 hX f1)
      | ((with_reducible refine at_store ?_); refine w_fstore _ _ (u := .int .i64 127) rfl rfl rfl rfl rfl f1 (by simp) rfl rfl (by kernel_rfl) ?_; intro w2 hm f2; replace hX := hm.after hX (fun i hi => by rw [hi]; exact hg1); replace f1 : Fs w2 g1 [.int .i64 127] := f2; clear hm f2)
      | fail) <;> (try simp only [Act.put, List.setIfInBounds_toArray, List.set_cons_zero, List.set_cons_succ]))
    go_ret
    exact Keep.intro ⟨by rw [hc.out]; rfl, hX⟩
  · have hc := hide_ (show lchk l = 101 from if_neg fun e => h2 e.2)
    have hq := hide_ (show (!decide (∀ x ∈ l, 0 ≤ x ∧ x ≤ 127)) = true from by rw [decide_eq_false h2]; rfl)
    clear h1 h2
    go_enter Try.func29, Try.ntmps29
    go_wp2_with ((first
      | (go_at_call 56; refine (ContainsFunc_over (g := g1) (h0.out.ext hX) hI.out f1).mono ?_; rintro e w4 ⟨rfl, hx⟩; rw [hq.out]; replace hX := hX.trans hx; clear hx)
      | ((with_reducible refine at_bi ?_); (try refine w_yes _ _ _ rfl rfl rfl ?_); refine i_len _ rfl rfl (v := v) rfl h0.out ?_)
      | ((with_reducible refine at_alloc ?_); refine w_alloc1 (z := .int .i64 0) (by kernel_rfl) rfl rfl rfl ?_; intro g1 w1 hg1 hX f1)
      | ((with_reducible refine at_store ?_); refine w_fstore _ _ (u := .int .i64 127) rfl rfl rfl rfl rfl f1 (by simp) rfl rfl (by kernel_rfl) ?_; intro w2 hm f2; replace hX := hm.after hX (fun i hi => by rw [hi]; exact hg1); replace f1 : Fs w2 g1 [.int .i64 127] := f2; clear hm f2)
      | fail) <;> (try simp only [Act.put, List.setIfInBounds_toArray, List.set_cons_zero, List.set_cons_succ]))
    go_ret
    exact Keep.intro ⟨by rw [hc.out]; rfl, hX⟩
end Go.Proofs.Ytpnbkgeglgiihaa
namespace Go.Proofs.Ytpnbkgeglgiihaa
set_option maxRecDepth 100000
open Go.RowKit

set_option maxRecDepth 100000 in
set_option maxHeartbeats 1600000 in
theorem Wins_any {w : World} {v : Value} {l : List Int} {s n : Int} (hD : DrOk l) (h0 : Ints w v l) :
    Calls Try.prog 34 #[v, .int .i64 s, .int .i64 n] w fun e w' => e = .returned (.bool (win l s n)) ∧ Ext w w' := by
  refine calls_keep ?_
  by_cases g : 1 ≤ s ∧ s ≤ l.length ∧ 0 ≤ n ∧ n ≤ 6
  · obtain ⟨i, rfl⟩ : ∃ i : Nat, s = (i : Int) + 1 := ⟨(s - 1).toNat, by omega⟩
    obtain ⟨k, rfl⟩ : ∃ k : Nat, n = (k : Int) := ⟨n.toNat, by omega⟩
    have hlt : i < l.length := by omega
    have hk : k < 7 := by omega
    have hlen := hD.1
    have hd := hD.at hlt
    rw [win_at hlt hk]
    obtain ⟨d, hd0⟩ : ∃ d, l[i] = d := ⟨_, rfl⟩
    obtain ⟨b, hb⟩ : ∃ b, bitN l[i] k = b := ⟨_, rfl⟩
    rw [hb]
    rw [hd0] at hd hb
    have hand := hide_ (show (bits .and .i64 d ((2 ^ k : Nat) : Int) != 0) = b from by
      have := and_bit d.toNat k (by omega) hk
      rw [show ((d.toNat : Nat) : Int) = d from by omega] at this
      rw [this, hb])
    have hx := hide_ hd0
    have t1 : decide ((i : Int) + 1 < 1) = false := by simp; omega
    have t2 : decide ((l.length : Int) < (i : Int) + 1) = false := by simp; omega
    have t3 : decide ((k : Int) < 0) = false := by simp
    have t4 : decide (7 ≤ (k : Int)) = false := by simp; omega
    have hwi := hide_ (show IntKind.i64.wrap (i : Int) = (i : Int) from by simp [IntKind.wrap, IntKind.signed, IntKind.bits]; omega)
    have K0 := hide_ (h0.ext (Ext.refl w).drew)
    replace h0 := hide_ h0
    clear g hD hb hd0 hd
    go_enter Try.func34, Try.ntmps34
    go_wp2_with ((first
      | ((with_reducible refine at_bi ?_); (try refine w_yes _ _ _ rfl rfl rfl ?_); refine i_len _ rfl rfl (v := v) rfl h0.out ?_)
      | fail) <;> (try simp only [Act.put, List.setIfInBounds_toArray, List.set_cons_zero, List.set_cons_succ]))
    refine wp_region_linR (by kernel_rfl) (by kernel_rfl) ?_
    refine LinR.step (s := (.val v)) [(0, none)] rfl (by kernel_rfl) (op_out 0 v rfl (.inl rfl) rfl) ?_
    refine LinR.step (s := (.val (.int .i64 ((i : Int) + 1)))) [(1, none)] rfl (by kernel_rfl) (op_out 1 (.int .i64 ((i : Int) + 1)) rfl (.inl rfl) rfl) ?_
    refine LinR.step (s := (.val (.int .i64 (i : Int)))) [(24, some 0)] rfl (by kernel_rfl) (op_runs rfl fun σ w' hx hg => ⟨(.int .i64 (i : Int)), by have h24 : σ.tmps.getD 24 undef = .int .i64 ((i : Int) + 1) := hg.1; unfold Runs execOp; simp [Act.eval, h24, go_sem, hwi.out], rfl⟩) ?_
    refine LinR.step (s := (Sp.ptr (.int .i64 d))) [(23, some 2), (25, some 0)] rfl (by kernel_rfl) (op_runs rfl fun σ w' hx' hg => rptri (ρ := σ.eval) (w := w') (.tmp 23) (.tmp 25) rfl (hg.1) (K0.out.ext hx') i hg.2.1 hlt hx.out) ?_
    refine LinR.step (s := (.val (.int .i64 d))) [(26, some 0)] rfl (by kernel_rfl) (op_runs rfl fun σ w' hx hg => ⟨_, runs_load (ρ := σ.eval) (w := w') (.tmp 26) rfl Try.underlying3 rfl hg.1, rfl⟩) ?_
    refine LinR.step (s := (.val (.int .i64 (k : Int)))) [(2, none)] rfl (by kernel_rfl) (op_out 2 (.int .i64 (k : Int)) rfl (.inl rfl) rfl) ?_
    refine LinR.step (s := (.val (.int .i64 ((2 ^ k : Nat) : Int)))) [(28, some 0)] rfl (by kernel_rfl) (op_runs rfl fun σ w' hx hg => ⟨_, runs_shl1 (ρ := σ.eval) (w := w') (.tmp 28) rfl rfl hg.1 hk, rfl⟩) ?_
    refine LinR.step (s := (.val (.int .i64 (bits .and .i64 d ((2 ^ k : Nat) : Int))))) [(27, some 2), (29, some 0)] rfl (by kernel_rfl) (op_runs rfl fun σ w' hx hg => ⟨_, runs_bits (ρ := σ.eval) (w := w') (.tmp 27) (.tmp 29) (.inl rfl) rfl hg.1 hg.2.1, rfl⟩) ?_
    refine LinR.step (s := (.val (.bool b))) [(30, some 0)] rfl (by kernel_rfl) (op_runs rfl fun σ w' hx hg => ⟨_, runs_ne0 (ρ := σ.eval) (w := w') (.tmp 30) rfl hg.1 rfl, by rw [hand.out]; rfl⟩) ?_
    refine LinR.step (s := (.val (.bool b))) [(31, some 0)] rfl (by kernel_rfl) (op_copy 31 0 _ rfl (.inr rfl) rfl) ?_
    intro wN hxN
    simp only [Fin', Sp.ptr, List.reverse_cons, List.reverse_nil, List.nil_append, List.cons_append]
    intro q hq
    simp only [Act.put, List.setIfInBounds_toArray, List.set_cons_zero, List.set_cons_succ]
    go_wp2
    go_ret
    exact Keep.intro ⟨rfl, (Ext.refl w).drew.trans hxN⟩
  · rw [win_out g]
    replace h0 := hide_ h0
    by_cases g1 : s < 1
    · have t1 : decide (s < 1) = true := by simpa using g1
      clear g g1
      go_enter Try.func34, Try.ntmps34
      go_wp2_with ((first
        | ((with_reducible refine at_bi ?_); (try refine w_yes _ _ _ rfl rfl rfl ?_); refine i_len _ rfl rfl (v := v) rfl h0.out ?_)
        | fail) <;> (try simp only [Act.put, List.setIfInBounds_toArray, List.set_cons_zero, List.set_cons_succ]))
      go_ret
      exact Keep.intro ⟨rfl, Ext.refl _⟩
    have t1 : decide (s < 1) = false := by simpa using g1
    by_cases g2 : (l.length : Int) < s
    · have t2 : decide ((l.length : Int) < s) = true := by simpa using g2
      clear g g1 g2
      go_enter Try.func34, Try.ntmps34
      go_wp2_with ((first
        | ((with_reducible refine at_bi ?_); (try refine w_yes _ _ _ rfl rfl rfl ?_); refine i_len _ rfl rfl (v := v) rfl h0.out ?_)
        | fail) <;> (try simp only [Act.put, List.setIfInBounds_toArray, List.set_cons_zero, List.set_cons_succ]))
      go_ret
      exact Keep.intro ⟨rfl, Ext.refl _⟩
    have t2 : decide ((l.length : Int) < s) = false := by simpa using g2
    by_cases g3 : n < 0
    · have t3 : decide (n < 0) = true := by simpa using g3
      clear g g1 g2 g3
      go_enter Try.func34, Try.ntmps34
      go_wp2_with ((first
        | ((with_reducible refine at_bi ?_); (try refine w_yes _ _ _ rfl rfl rfl ?_); refine i_len _ rfl rfl (v := v) rfl h0.out ?_)
        | fail) <;> (try simp only [Act.put, List.setIfInBounds_toArray, List.set_cons_zero, List.set_cons_succ]))
      go_ret
      exact Keep.intro ⟨rfl, Ext.refl _⟩
    have t3 : decide (n < 0) = false := by simpa using g3
    have t4 : decide (7 ≤ n) = true := by simp; omega
    clear g g1 g2 g3
    go_enter Try.func34, Try.ntmps34
    go_wp2_with ((first
      | ((with_reducible refine at_bi ?_); (try refine w_yes _ _ _ rfl rfl rfl ?_); refine i_len _ rfl rfl (v := v) rfl h0.out ?_)
      | fail) <;> (try simp only [Act.put, List.setIfInBounds_toArray, List.set_cons_zero, List.set_cons_succ]))
    go_ret
    exact Keep.intro ⟨rfl, Ext.refl _⟩

set_option maxRecDepth 100000 in
set_option maxHeartbeats 1600000 in
theorem Winners_own {w : World} {v : Value} {l : List Int} {s : Int} (hD : DrOk l) (h0 : Ints w v l) :
    Calls Try.prog 30 #[v, .int .i64 s] w fun e w' => ∃ v', e = .returned v' ∧ OwnI w.heap.size w' v' (wns l s) ∧ Ext w w' := by
  refine calls_keep ?_
  replace h0 := hide_ h0
  replace hD := hide_ hD
  obtain ⟨p, hp0⟩ : ∃ p : Nat → Bool, p = fun i : Nat => win l s (i : Int) := ⟨_, rfl⟩
  have hp := hide_ (show ∀ k : Nat, win l s k = p k from fun k => by rw [hp0])
  have hr := hide_ (show wns l s = pk 0 p 7 from by rw [hp0]; rfl)
  clear hp0
  go_enter Try.func30, Try.ntmps30
  go_wp2
  go_loopw [5, 7] (fun out i wr => ∃ k : Nat, i = .int .i64 k ∧ k ≤ 7 ∧ Hid (OwnI w.heap.size wr out (pk 0 p k)) ∧ Ext w wr) (fun _ i _ => 7 - (RowKit.intOf i).toNat)
  case atStart => exact ⟨0, rfl, by omega, hide_ (OwnI.nil _ _), Ext.refl _⟩
  case round =>
    obtain ⟨k, rfl, hk, ho, hX⟩ := hrel
    by_cases hlt : k < 7
    · have t2 : decide ((k : Int) < 7) = true := by simp; omega
      have Hlen := hide_ (pk_len (c := 0) (p := p) k)
      cases hb : p k
      · have Hp := hide_ (pk_no (c := 0) hb)
        have hb' := hide_ hb
        clear hb
        go_wp2_with (first
          | (go_at_call 34; refine (Wins_any hD.out (h0.out.ext hX)).mono ?_; rintro e w4 ⟨rfl, hx⟩; rw [hp.out, hb'.out]; replace hX := hX.trans hx; replace ho := hide_ (OwnI.ext ho.out hx); clear hx)
          | fail)
        go_roundw
        case rel => exact ⟨k + 1, by go_num, by omega, by rw [Hp.out]; exact ho, hX⟩
        case measure => simp [RowKit.intOf]; omega
      · have Hp := hide_ (pk_yes (c := 0) hb)
        have hb' := hide_ hb
        clear hb
        go_wp2_with ((first
          | (go_at_call 34; refine (Wins_any hD.out (h0.out.ext hX)).mono ?_; rintro e w4 ⟨rfl, hx⟩; rw [hp.out, hb'.out]; replace hX := hX.trans hx; replace ho := hide_ (OwnI.ext ho.out hx); clear hx)
          | ((with_reducible refine at_lit ?_); refine w_new Try.elI (o := ⟨some 16, _, _, _, _, _⟩) (i64s [(k : Int)]) rfl rfl rfl (i64s_cells _) rfl (by omega) ?_; intro v3 w3 hx3 ho3; have o3 : OwnI _ w3 v3 [(k : Int)] := ho3; have i3 := o3.ints; replace ho := hide_ (OwnI.ext ho.out hx3); replace hX := hX.trans hx3; clear ho3 o3 hx3)
          | ((with_reducible refine at_bi ?_); refine appi _ _ rfl rfl rfl rfl ho.out i3 (by have := Hlen.out; simp; omega) hX.size ?_; intro v4 w4 ho4 hb4 hg4 hl4; replace hX := hX.trans' hb4; clear hb4 hg4 hl4 ho i3)
          | fail) <;> (try simp only [Act.put, List.setIfInBounds_toArray, List.set_cons_zero, List.set_cons_succ]))
        go_roundw
        case rel => exact ⟨k + 1, by go_num, by omega, by rw [Hp.out]; exact ho4, hX⟩
        case measure => simp [RowKit.intOf]; omega
    · obtain rfl : k = 7 := by omega
      go_wp2
      go_ret
      exact Keep.intro ⟨_, rfl, by rw [hr.out]; exact ho.out, hX⟩

theorem Winners_any {w : World} {v : Value} {l : List Int} {s : Int} (hD : DrOk l) (h0 : Ints w v l) :
    Calls Try.prog 30 #[v, .int .i64 s] w fun e w' => ∃ v', e = .returned v' ∧ Ints w' v' (wns l s) ∧ Ext w w' :=
  (Winners_own hD h0).mono fun _ _ ⟨v', h1, h2, h3⟩ => ⟨v', h1, h2.ints, h3⟩
end Go.Proofs.Ytpnbkgeglgiihaa
namespace Go.Proofs.Ytpnbkgeglgiihaa
set_option maxRecDepth 100000
open Go.RowKit

set_option maxRecDepth 100000 in
set_option maxHeartbeats 3200000 in
theorem Single_any {w : World} {v u : Value} {l who : List Int} (hD : DrOk l) (h0 : Ints w v l) (hu : Ints w u who) :
    Calls Try.prog 28 #[v, u] w fun e w' => e = .returned (.bool (sgl l who)) ∧ Ext w w' := by
  refine calls_keep ?_
  have hX := Ext.refl w
  replace h0 := hide_ h0
  replace hu := hide_ hu
  have hlen := hD.1
  replace hD := hide_ hD
  go_enter Try.func28, Try.ntmps28
  go_wp2_with ((first
    | ((with_reducible refine at_bi ?_); (try refine w_yes _ _ _ rfl rfl rfl ?_); refine i_len _ rfl rfl (v := v) rfl (h0.out.ext hX) ?_)
    | fail) <;> (try simp only [Act.put, List.setIfInBounds_toArray, List.set_cons_zero, List.set_cons_succ]))
  go_loopw [9] (fun i wr => ∃ k : Nat, i = .int .i64 k ∧ k ≤ l.length ∧ Hid (∀ i, i < k → good l who i) ∧ Ext w wr) (fun i _ => l.length - (RowKit.intOf i).toNat)
  case atStart => exact ⟨0, rfl, by omega, hide_ (fun i hi => by omega), hX⟩
  case round =>
    clear hX
    obtain ⟨k, rfl, hk, hG, hX⟩ := hrel
    by_cases hlt : k < l.length
    · have t2 : decide ((k : Int) < (l.length : Int)) = true := by simp; omega
      obtain ⟨W, hW0⟩ : ∃ W, wns l ((k : Int) + 1) = W := ⟨_, rfl⟩
      have hW := hide_ hW0
      have hgd : good l who k ↔ W.length ≤ 1 ∧ ∀ x ∈ W, x ∈ who := by rw [← hW0]; rfl
      have hWl : W.length ≤ 7 := by rw [← hW0]; exact pk_len 7
      clear hW0
      by_cases c1 : 1 < W.length
      · have t3 : decide ((1 : Int) < (W.length : Int)) = true := by simp; omega
        have hs := hide_ (show sgl l who = false from decide_eq_false fun h => by have := (hgd.1 (h k hlt)).1; omega)
        clear c1 hgd
        go_wp2_with ((first
          | (go_at_call 30; refine (Winners_any hD.out (h0.out.ext hX)).mono ?_; rintro e w4 ⟨vw, rfl, iw, hx⟩; rw [hW.out] at iw; replace iw := hide_ iw; replace hX := hX.trans hx; clear hx)
          | ((with_reducible refine at_bi ?_); (try refine w_yes _ _ _ rfl rfl rfl ?_); refine i_len _ rfl rfl (v := vw) rfl iw.out ?_)
          | fail) <;> (try simp only [Act.put, List.setIfInBounds_toArray, List.set_cons_zero, List.set_cons_succ]))
        go_ret
        exact Keep.intro ⟨by rw [hs.out]; rfl, hX⟩
      have t3 : decide ((1 : Int) < (W.length : Int)) = false := by simp; omega
      by_cases c2 : W.length = 1
      · have t4 : ((W.length : Int) == 1) = true := by rw [c2]; rfl
        obtain ⟨x, hx⟩ : ∃ x, W = [x] := List.length_eq_one_iff.1 c2
        have h1 := hide_ (show 0 < W.length from by omega)
        have hx0 := hide_ (show W[0]'(by omega) = x from by subst hx; rfl)
        cases cq : decide (x ∈ who)
        · have hq := hide_ cq
          have hs := hide_ (show sgl l who = false from decide_eq_false fun h => by
            have h2 := (hgd.1 (h k hlt)).2 x (by rw [hx]; simp)
            rw [decide_eq_true h2] at cq; cases cq)
          clear c1 hgd cq hx
          go_wp2_with ((first
            | (go_at_call 30; refine (Winners_any hD.out (h0.out.ext hX)).mono ?_; rintro e w4 ⟨vw, rfl, iw, hx⟩; rw [hW.out] at iw; replace iw := hide_ iw; replace hX := hX.trans hx; clear hx)
            | (go_at_call 55; refine (Contains_any (n := x) (hu.out.ext hX)).mono ?_; rintro e w4 ⟨rfl, hx⟩; rw [hq.out]; replace hX := hX.trans hx; clear hx)
            | ((with_reducible refine at_bi ?_); (try refine w_yes _ _ _ rfl rfl rfl ?_); refine i_len _ rfl rfl (v := vw) rfl iw.out ?_)
            | ((with_reducible refine at_idx ?_); (try refine w_yes _ _ _ rfl rfl rfl ?_); refine i_idx _ _ 0 rfl rfl (v := vw) rfl iw.out rfl h1.out ?_; intro ad had; rw [hx0.out] at had)
            | fail) <;> (try simp only [Act.put, List.setIfInBounds_toArray, List.set_cons_zero, List.set_cons_succ]))
          go_ret
          exact Keep.intro ⟨by rw [hs.out]; rfl, hX⟩
        · have hq := hide_ cq
          have hs := hide_ (show ∀ i, i < k + 1 → good l who i from fun i hi => by
            by_cases e : i < k
            · exact hG.out i e
            · obtain rfl : i = k := by omega
              refine hgd.2 ⟨by omega, fun y hy => ?_⟩
              rw [hx] at hy
              simp only [List.mem_singleton] at hy
              subst hy
              exact of_decide_eq_true cq)
          clear c1 hgd cq hx hG
          go_wp2_with ((first
            | (go_at_call 30; refine (Winners_any hD.out (h0.out.ext hX)).mono ?_; rintro e w4 ⟨vw, rfl, iw, hx⟩; rw [hW.out] at iw; replace iw := hide_ iw; replace hX := hX.trans hx; clear hx)
            | (go_at_call 55; refine (Contains_any (n := x) (hu.out.ext hX)).mono ?_; rintro e w4 ⟨rfl, hx⟩; rw [hq.out]; replace hX := hX.trans hx; clear hx)
            | ((with_reducible refine at_bi ?_); (try refine w_yes _ _ _ rfl rfl rfl ?_); refine i_len _ rfl rfl (v := vw) rfl iw.out ?_)
            | ((with_reducible refine at_idx ?_); (try refine w_yes _ _ _ rfl rfl rfl ?_); refine i_idx _ _ 0 rfl rfl (v := vw) rfl iw.out rfl h1.out ?_; intro ad had; rw [hx0.out] at had)
            | fail) <;> (try simp only [Act.put, List.setIfInBounds_toArray, List.set_cons_zero, List.set_cons_succ]))
          go_roundw
          case rel => exact ⟨k + 1, by go_num, by omega, hs, hX⟩
          case measure => simp [RowKit.intOf]; omega
      · have t4 : ((W.length : Int) == 1) = false := by simp; omega
        have hs := hide_ (show ∀ i, i < k + 1 → good l who i from fun i hi => by
          by_cases e : i < k
          · exact hG.out i e
          · obtain rfl : i = k := by omega
            have : W = [] := List.eq_nil_of_length_eq_zero (by omega)
            refine hgd.2 ⟨by omega, fun y hy => ?_⟩
            rw [this] at hy; simp at hy)
        clear c1 c2 hgd hG
        go_wp2_with ((first
          | (go_at_call 30; refine (Winners_any hD.out (h0.out.ext hX)).mono ?_; rintro e w4 ⟨vw, rfl, iw, hx⟩; rw [hW.out] at iw; replace iw := hide_ iw; replace hX := hX.trans hx; clear hx)
          | ((with_reducible refine at_bi ?_); (try refine w_yes _ _ _ rfl rfl rfl ?_); refine i_len _ rfl rfl (v := vw) rfl iw.out ?_)
          | fail) <;> (try simp only [Act.put, List.setIfInBounds_toArray, List.set_cons_zero, List.set_cons_succ]))
        go_roundw
        case rel => exact ⟨k + 1, by go_num, by omega, hs, hX⟩
        case measure => simp [RowKit.intOf]; omega
    · obtain rfl : k = l.length := by omega
      have t2 : decide ((l.length : Int) < (l.length : Int)) = false := by simp
      have hs := hide_ (show sgl l who = true from decide_eq_true hG.out)
      go_wp2
      go_ret
      exact Keep.intro ⟨by rw [hs.out]; rfl, hX⟩
end Go.Proofs.Ytpnbkgeglgiihaa
