/- Draws: who wins where, as plain mathematics. · The contracts of package lot: Check, Wins, Winners, Slots. Condition: but for Check, draws that can be. · The contracts of lot.Wins, Winners, Slots. Condition: draws that can be. · The contract of lot.Single. Condition: draws that can be. -/
import Derived.Test.YtdoeoncmhaihbaaFD
import Derived.Test.YtdoeoncmhaihbaaCont
import Derived.Test.YtdoeoncmhaihbaaMapO
import Derived.Test.YtdoeoncmhaihbaaFE
namespace Go.Proofs.Ytdoeoncmhaihbaa
set_option maxRecDepth 100000
open Go.RowKit

/-- Draws that can be. -/
def DrOk (l : List Int) : Prop := l.length ≤ 200 ∧ ∀ x ∈ l, 0 ≤ x ∧ x ≤ 127
instance (l : List Int) : Decidable (DrOk l) := by unfold DrOk; infer_instance
def lchk (l : List Int) : Int := if DrOk l then 0 else 101
/-- Does the bit of node n stand in d? -/
def bitN (d : Int) (n : Nat) : Bool := decide (d / 2 ^ n % 2 = 1)
/-- Does node n win at place i (slot i + 1)? -/
def wn (l : List Int) (i n : Nat) : Bool := match l[i]? with
  | some d => bitN d n
  | none => false
def win (l : List Int) (s n : Int) : Bool := decide (1 ≤ s ∧ s ≤ l.length ∧ 0 ≤ n ∧ n ≤ 6) && wn l (s - 1).toNat n.toNat
/-- The numbers below k, moved by c, of which p tells. -/
def pk (c : Nat) (p : Nat → Bool) : Nat → List Int
  | 0 => []
  | k + 1 => pk c p k ++ if p k then [((k + c : Nat) : Int)] else []
def wns (l : List Int) (s : Int) : List Int := pk 0 (fun n => win l s n) 7
def sls (l : List Int) (n : Int) : List Int := pk 1 (fun i => win l ((i + 1 : Nat) : Int) n) l.length
/-- At place i at most one wins, and one of who. -/
def good (l who : List Int) (i : Nat) : Prop := (wns l ((i + 1 : Nat) : Int)).length ≤ 1 ∧ ∀ x ∈ wns l ((i + 1 : Nat) : Int), x ∈ who
instance (l who : List Int) (i : Nat) : Decidable (good l who i) := by unfold good; infer_instance
def sgl (l who : List Int) : Bool := decide (∀ i, i < l.length → good l who i)

theorem pk_yes {c : Nat} {p : Nat → Bool} {k : Nat} (h : p k = true) : pk c p (k + 1) = pk c p k ++ [((k + c : Nat) : Int)] := by rw [pk, if_pos h]
theorem pk_no {c : Nat} {p : Nat → Bool} {k : Nat} (h : p k = false) : pk c p (k + 1) = pk c p k := by rw [pk, if_neg (by rw [h]; decide), List.append_nil]
theorem pk_len {c : Nat} {p : Nat → Bool} : ∀ k, (pk c p k).length ≤ k
  | 0 => Nat.le_refl _
  | k + 1 => by
    have := pk_len (c := c) (p := p) k
    rw [pk, List.length_append]; split <;> simp <;> omega
theorem pk_mem {c : Nat} {p : Nat → Bool} {x : Int} : ∀ {k : Nat}, x ∈ pk c p k ↔ ∃ i, i < k ∧ p i = true ∧ x = ((i + c : Nat) : Int)
  | 0 => by simp [pk]
  | k + 1 => by
    rw [pk, List.mem_append, pk_mem]
    constructor
    · rintro (⟨i, h1, h2, h3⟩ | h)
      · exact ⟨i, by omega, h2, h3⟩
      · split at h
        · rename_i hp
          exact ⟨k, by omega, hp, by simpa using h⟩
        · simp at h
    · rintro ⟨i, h1, h2, h3⟩
      by_cases e : i = k
      · subst e; right; rw [if_pos h2]; simpa using h3
      · exact .inl ⟨i, by omega, h2, h3⟩
theorem pk_congr {c : Nat} {p q : Nat → Bool} : ∀ {k : Nat}, (∀ i, i < k → p i = q i) → pk c p k = pk c q k
  | 0, _ => rfl
  | k + 1, h => by rw [pk, pk, pk_congr (fun i hi => h i (by omega)), h k (by omega)]
theorem pk_lenc {c c' : Nat} {p : Nat → Bool} : ∀ k, (pk c p k).length = (pk c' p k).length
  | 0 => rfl
  | k + 1 => by rw [pk, pk, List.length_append, List.length_append, pk_lenc (c := c) (c' := c') k]; split <;> rfl
theorem pk_count {c : Nat} {p : Nat → Bool} {i : Nat} : ∀ k, (pk c p k).count ((i + c : Nat) : Int) = if i < k ∧ p i = true then 1 else 0
  | 0 => by simp [pk]
  | k + 1 => by
    rw [pk, List.count_append, pk_count k]
    by_cases e : i = k
    · subst e
      rw [if_neg (by omega)]
      cases h : p i <;> simp
    · have h1 : (if p k = true then [((k + c : Nat) : Int)] else []).count ((i + c : Nat) : Int) = 0 := by
        split
        · rw [List.count_eq_zero]; simp; omega
        · rfl
      rw [h1, Nat.add_zero]
      have h2 : (i < k ∧ p i = true) ↔ (i < k + 1 ∧ p i = true) := ⟨fun h => ⟨by omega, h.2⟩, fun h => ⟨by omega, h.2⟩⟩
      simp only [h2]
/-- How many p tells of. -/
theorem pk_len_yes {c : Nat} {p : Nat → Bool} {k : Nat} : (pk c p (k + 1)).length = (pk c p k).length + if p k then 1 else 0 := by
  rw [pk, List.length_append]; split <;> rfl
theorem pk_or {c n : Nat} {p : Nat → Bool} : ∀ {k : Nat}, (pk c (fun i => i == n || p i) k).length = (pk c p k).length + if n < k ∧ p n = false then 1 else 0
  | 0 => by simp [pk]
  | k + 1 => by
    rw [pk_len_yes, pk_len_yes, pk_or (k := k)]
    by_cases e : n = k
    · subst e
      have h1 : ¬ (n < n ∧ p n = false) := by omega
      rw [if_neg h1]
      cases h : p n <;> simp
    · have h2 : (n < k ∧ p n = false) ↔ (n < k + 1 ∧ p n = false) := ⟨fun h => ⟨by omega, h.2⟩, fun h => ⟨by omega, h.2⟩⟩
      simp only [h2]
      have h3 : (k == n) = false := by simp; omega
      rw [h3, Bool.false_or]; omega

theorem DrOk.at {l : List Int} (h : DrOk l) {i : Nat} (hi : i < l.length) : 0 ≤ l[i] ∧ l[i] ≤ 127 := h.2 _ (List.getElem_mem hi)
theorem win_at {l : List Int} {i n : Nat} (hi : i < l.length) (hn : n < 7) : win l ((i : Int) + 1) (n : Int) = bitN l[i] n := by
  unfold win wn
  rw [decide_eq_true (by omega), Bool.true_and]
  have e1 : ((i : Int) + 1 - 1).toNat = i := by omega
  have e2 : ((n : Int)).toNat = n := by omega
  rw [e1, e2, List.getElem?_eq_getElem hi]
theorem win_out {l : List Int} {s n : Int} (h : ¬ (1 ≤ s ∧ s ≤ l.length ∧ 0 ≤ n ∧ n ≤ 6)) : win l s n = false := by
  unfold win; rw [decide_eq_false h, Bool.false_and]
theorem win_in {l : List Int} {s n : Int} (h : win l s n = true) : 1 ≤ s ∧ s ≤ l.length ∧ 0 ≤ n ∧ n ≤ 6 := by
  by_cases g : 1 ≤ s ∧ s ≤ l.length ∧ 0 ≤ n ∧ n ≤ 6
  · exact g
  · rw [win_out g] at h; cases h

/-! ### Bits -/
theorem and_bit (d k : Nat) (hd : d < 128) (hk : k < 7) : (bits .and .i64 (d : Int) ((2 ^ k : Nat) : Int) != 0) = bitN (d : Int) k := by
  have h : ∀ (d : Fin 128) (k : Fin 7), (bits .and .i64 (d.val : Int) ((2 ^ k.val : Nat) : Int) != 0) = bitN (d.val : Int) k.val := by decide +kernel
  exact h ⟨d, hd⟩ ⟨k, hk⟩
/-- d with the bit of n. -/
def orb (d : Int) (n : Nat) : Int := bits .or .i64 d ((2 ^ n : Nat) : Int)
theorem orb_ok {d : Int} {n : Nat} (h0 : 0 ≤ d) (h1 : d ≤ 127) (hn : n < 7) : 0 ≤ orb d n ∧ orb d n ≤ 127 := by
  have h : ∀ (d : Fin 128) (k : Fin 7), 0 ≤ orb (d.val : Int) k.val ∧ orb (d.val : Int) k.val ≤ 127 := by decide +kernel
  have := h ⟨d.toNat, by omega⟩ ⟨n, hn⟩
  simp only at this
  rwa [show ((d.toNat : Nat) : Int) = d from by omega] at this
theorem orb_bit {d : Int} {n k : Nat} (h0 : 0 ≤ d) (h1 : d ≤ 127) (hn : n < 7) (hk : k < 7) : bitN (orb d n) k = (k == n || bitN d k) := by
  have h : ∀ (d : Fin 128) (n k : Fin 7), bitN (orb (d.val : Int) n.val) k.val = (k.val == n.val || bitN (d.val : Int) k.val) := by decide +kernel
  have := h ⟨d.toNat, by omega⟩ ⟨n, hn⟩ ⟨k, hk⟩
  simp only at this
  rwa [show ((d.toNat : Nat) : Int) = d from by omega] at this
/-- Which numbers have bits beside the first seven. -/
theorem andNot_yes {d : Int} (h0 : 0 ≤ d) (h1 : d ≤ 127) : bits .andNot .i64 d 127 = 0 := by
  have h : ∀ d : Fin 128, bits .andNot .i64 (d.val : Int) 127 = 0 := by decide +kernel
  have := h ⟨d.toNat, by omega⟩
  simp only at this
  rwa [show ((d.toNat : Nat) : Int) = d from by omega] at this
theorem andNot_no {d : Int} (hlo : -9223372036854775808 ≤ d) (hhi : d ≤ 9223372036854775807) (h : bits .andNot .i64 d 127 = 0) : 0 ≤ d ∧ d ≤ 127 := by
  have e : bits .andNot .i64 d 127 = IntKind.i64.wrap ((BitVec.ofInt 64 d &&& ~~~(BitVec.ofInt 64 127)).toNat : Int) := rfl
  rw [e] at h
  obtain ⟨r, hr⟩ : ∃ r, r = BitVec.ofInt 64 d &&& ~~~(BitVec.ofInt 64 127) := ⟨_, rfl⟩
  rw [← hr] at h
  have hlt := r.isLt
  have hz : r.toNat = 0 := by
    simp [IntKind.wrap, IntKind.signed, IntKind.bits] at h
    omega
  have hr0 : r = 0#64 := BitVec.eq_of_toNat_eq (by rw [hz]; rfl)
  have hd : (BitVec.ofInt 64 d).toNat < 2 ^ 7 := by
    refine Nat.lt_pow_two_of_testBit _ fun i hi => ?_
    by_cases h64 : i < 64
    · have h2 : (BitVec.ofInt 64 d &&& ~~~(BitVec.ofInt 64 127)).getLsbD i = false := by rw [← hr, hr0]; simp
      rw [BitVec.getLsbD_and, BitVec.getLsbD_not] at h2
      have h3 : (BitVec.ofInt 64 127).getLsbD i = false := by
        rw [show BitVec.ofInt 64 127 = BitVec.ofNat 64 127 from rfl, BitVec.getLsbD_ofNat]
        have : Nat.testBit 127 i = false := Nat.testBit_lt_two_pow (Nat.lt_of_lt_of_le (by decide : 127 < 2 ^ 7) (Nat.pow_le_pow_right (by decide) hi))
        rw [this]; simp
      rw [h3] at h2
      simp only [h64, decide_true, Bool.not_false, Bool.and_true] at h2
      exact h2
    · exact Nat.testBit_lt_two_pow (Nat.lt_of_lt_of_le (BitVec.ofInt 64 d).isLt (Nat.pow_le_pow_right (by decide) (by omega)))
  rw [BitVec.toNat_ofInt] at hd
  omega
end Go.Proofs.Ytdoeoncmhaihbaa
namespace Go.Proofs.Ytdoeoncmhaihbaa
set_option maxRecDepth 100000
open Go.RowKit

/-- 1 << n -/
theorem runs_shl1 {P : Program} {o : Oper} {ρ : Operand → Value} {w : World} {k : Nat} {t t' : TypeId} (x : Operand) (ho : o.op = .binOp .shl t (.const (.int .i64 1)) x t') (hc : ρ (.const (.int .i64 1)) = .int .i64 1) (hx : ρ x = .int .i64 k) (hk : k < 7) : Runs P o ρ w (.int .i64 ((2 ^ k : Nat) : Int)) := by
  have hw : IntKind.i64.wrap (1 * 2 ^ k) = ((2 ^ k : Nat) : Int) := by
    have h : ∀ k : Fin 7, IntKind.i64.wrap (1 * 2 ^ k.val) = ((2 ^ k.val : Nat) : Int) := by decide +kernel
    exact h ⟨k, hk⟩
  unfold Runs execOp
  simp only [ho, hc, hx]
  simp [go_sem]
  simpa using hw
theorem runs_bits {P : Program} {o : Oper} {ρ : Operand → Value} {w : World} {t t' : TypeId} {op : BinOp} {m n : Int} (x y : Operand) (hop : op = .and ∨ op = .or) (ho : o.op = .binOp op t x y t') (hx : ρ x = .int .i64 m) (hy : ρ y = .int .i64 n) : Runs P o ρ w (.int .i64 (bits op .i64 m n)) := by
  unfold Runs execOp
  rcases hop with rfl | rfl <;> simp [ho, hx, hy, go_sem]
theorem runs_ne0 {P : Program} {o : Oper} {ρ : Operand → Value} {w : World} {t t' : TypeId} {m : Int} (x : Operand) (ho : o.op = .binOp .neq t x (.const (.int .i64 0)) t') (hx : ρ x = .int .i64 m) (hc : ρ (.const (.int .i64 0)) = .int .i64 0) : Runs P o ρ w (.bool (m != 0)) := by
  unfold Runs execOp
  simp [ho, hx, hc, go_sem]

/-! ### Check -/
/-- The first one that can't be. -/
def FirstN (q : Int → Bool) (l : List Int) (r : Int) : Prop := decide (0 ≤ r) = l.any q
end Go.Proofs.Ytdoeoncmhaihbaa
namespace Go.Proofs.Ytdoeoncmhaihbaa
set_option maxRecDepth 100000
open Go.RowKit

set_option maxRecDepth 100000 in
set_option maxHeartbeats 1600000 in
theorem Wins_any {w : World} {v : Value} {l : List Int} {s n : Int} (hD : DrOk l) (h0 : Ints w v l) :
    Calls Try.prog 41 #[v, .int .i64 s, .int .i64 n] w fun e w' => e = .returned (.bool (win l s n)) ∧ Ext w w' := by
  refine calls_keep ?_
  by_cases g : 1 ≤ s ∧ s ≤ l.length ∧ 0 ≤ n ∧ n ≤ 6
  · obtain ⟨i, rfl⟩ : ∃ i : Nat, s = (i : Int) + 1 := ⟨(s - 1).toNat, by omega⟩
    obtain ⟨k, rfl⟩ : ∃ k : Nat, n = (k : Int) := ⟨n.toNat, by omega⟩
    have hlt : i < l.length := by omega
    have hk : k < 7 := by omega
    have hlen := hD.1
    have hd := hD.at hlt
    rw [win_at hlt hk]
    obtain ⟨d, hd0⟩ : ∃ d, l[i] = d := ⟨_, rfl⟩
    obtain ⟨b, hb⟩ : ∃ b, bitN l[i] k = b := ⟨_, rfl⟩
    rw [hb]
    rw [hd0] at hd hb
    have hand := hide_ (show (bits .and .i64 d ((2 ^ k : Nat) : Int) != 0) = b from by
      have := and_bit d.toNat k (by omega) hk
      rw [show ((d.toNat : Nat) : Int) = d from by omega] at this
      rw [this, hb])
    have hx := hide_ hd0
    have t1 : decide ((i : Int) + 1 < 1) = false := by simp; omega
    have t2 : decide ((l.length : Int) < (i : Int) + 1) = false := by simp; omega
    have t3 : decide ((k : Int) < 0) = false := by simp
    have t4 : decide (7 ≤ (k : Int)) = false := by simp; omega
    have hwi := hide_ (show IntKind.i64.wrap (i : Int) = (i : Int) from by simp [IntKind.wrap, IntKind.signed, IntKind.bits]; omega)
    have K0 := hide_ (h0.ext (Ext.refl w).drew)
    replace h0 := hide_ h0
    clear g hD hb hd0 hd
    go_enter Try.func41, Try.ntmps41
    go_wp2_with ((first
      | ((with_reducible refine at_bi ?_); (try refine w_yes _ _ _ rfl rfl rfl ?_); refine i_len _ rfl rfl (v := v) rfl h0.out ?_)
      | fail) <;> (try simp only [Act.put, List.setIfInBounds_toArray, List.set_cons_zero, List.set_cons_succ]))
    refine wp_region_linR (by kernel_rfl) (by kernel_rfl) ?_
    refine LinR.step (s := (.val v)) [(0, none)] rfl (by kernel_rfl) (op_out 0 v rfl (.inl rfl) rfl) ?_
    refine LinR.step (s := (.val (.int .i64 ((i : Int) + 1)))) [(1, none)] rfl (by kernel_rfl) (op_out 1 (.int .i64 ((i : Int) + 1)) rfl (.inl rfl) rfl) ?_
    refine LinR.step (s := (.val (.int .i64 (i : Int)))) [(24, some 0)] rfl (by kernel_rfl) (op_runs rfl fun σ w' hx hg => ⟨(.int .i64 (i : Int)), by have h24 : σ.tmps.getD 24 undef = .int .i64 ((i : Int) + 1) := hg.1; unfold Runs execOp; simp [Act.eval, h24, go_sem, hwi.out], rfl⟩) ?_
    refine LinR.step (s := (Sp.ptr (.int .i64 d))) [(23, some 2), (25, some 0)] rfl (by kernel_rfl) (op_runs rfl fun σ w' hx' hg => rptri (ρ := σ.eval) (w := w') (.tmp 23) (.tmp 25) rfl (hg.1) (K0.out.ext hx') i hg.2.1 hlt hx.out) ?_
    refine LinR.step (s := (.val (.int .i64 d))) [(26, some 0)] rfl (by kernel_rfl) (op_runs rfl fun σ w' hx hg => ⟨_, runs_load (ρ := σ.eval) (w := w') (.tmp 26) rfl Try.underlying3 rfl hg.1, rfl⟩) ?_
    refine LinR.step (s := (.val (.int .i64 (k : Int)))) [(2, none)] rfl (by kernel_rfl) (op_out 2 (.int .i64 (k : Int)) rfl (.inl rfl) rfl) ?_
    refine LinR.step (s := (.val (.int .i64 ((2 ^ k : Nat) : Int)))) [(28, some 0)] rfl (by kernel_rfl) (op_runs rfl fun σ w' hx hg => ⟨_, runs_shl1 (ρ := σ.eval) (w := w') (.tmp 28) rfl rfl hg.1 hk, rfl⟩) ?_
    refine LinR.step (s := (.val (.int .i64 (bits .and .i64 d ((2 ^ k : Nat) : Int))))) [(27, some 2), (29, some 0)] rfl (by kernel_rfl) (op_runs rfl fun σ w' hx hg => ⟨_, runs_bits (ρ := σ.eval) (w := w') (.tmp 27) (.tmp 29) (.inl rfl) rfl hg.1 hg.2.1, rfl⟩) ?_
    refine LinR.step (s := (.val (.bool b))) [(30, some 0)] rfl (by kernel_rfl) (op_runs rfl fun σ w' hx hg => ⟨_, runs_ne0 (ρ := σ.eval) (w := w') (.tmp 30) rfl hg.1 rfl, by rw [hand.out]; rfl⟩) ?_
    refine LinR.step (s := (.val (.bool b))) [(31, some 0)] rfl (by kernel_rfl) (op_copy 31 0 _ rfl (.inr rfl) rfl) ?_
    intro wN hxN
    simp only [Fin', Sp.ptr, List.reverse_cons, List.reverse_nil, List.nil_append, List.cons_append]
    intro q hq
    simp only [Act.put, List.setIfInBounds_toArray, List.set_cons_zero, List.set_cons_succ]
    go_wp2
    go_ret
    exact Keep.intro ⟨rfl, (Ext.refl w).drew.trans hxN⟩
  · rw [win_out g]
    replace h0 := hide_ h0
    by_cases g1 : s < 1
    · have t1 : decide (s < 1) = true := by simpa using g1
      clear g g1
      go_enter Try.func41, Try.ntmps41
      go_wp2_with ((first
        | ((with_reducible refine at_bi ?_); (try refine w_yes _ _ _ rfl rfl rfl ?_); refine i_len _ rfl rfl (v := v) rfl h0.out ?_)
        | fail) <;> (try simp only [Act.put, List.setIfInBounds_toArray, List.set_cons_zero, List.set_cons_succ]))
      go_ret
      exact Keep.intro ⟨rfl, Ext.refl _⟩
    have t1 : decide (s < 1) = false := by simpa using g1
    by_cases g2 : (l.length : Int) < s
    · have t2 : decide ((l.length : Int) < s) = true := by simpa using g2
      clear g g1 g2
      go_enter Try.func41, Try.ntmps41
      go_wp2_with ((first
        | ((with_reducible refine at_bi ?_); (try refine w_yes _ _ _ rfl rfl rfl ?_); refine i_len _ rfl rfl (v := v) rfl h0.out ?_)
        | fail) <;> (try simp only [Act.put, List.setIfInBounds_toArray, List.set_cons_zero, List.set_cons_succ]))
      go_ret
      exact Keep.intro ⟨rfl, Ext.refl _⟩
    have t2 : decide ((l.length : Int) < s) = false := by simpa using g2
    by_cases g3 : n < 0
    · have t3 : decide (n < 0) = true := by simpa using g3
      clear g g1 g2 g3
      go_enter Try.func41, Try.ntmps41
      go_wp2_with ((first
        | ((with_reducible refine at_bi ?_); (try refine w_yes _ _ _ rfl rfl rfl ?_); refine i_len _ rfl rfl (v := v) rfl h0.out ?_)
        | fail) <;> (try simp only [Act.put, List.setIfInBounds_toArray, List.set_cons_zero, List.set_cons_succ]))
      go_ret
      exact Keep.intro ⟨rfl, Ext.refl _⟩
    have t3 : decide (n < 0) = false := by simpa using g3
    have t4 : decide (7 ≤ n) = true := by simp; omega
    clear g g1 g2 g3
    go_enter Try.func41, Try.ntmps41
    go_wp2_with ((first
      | ((with_reducible refine at_bi ?_); (try refine w_yes _ _ _ rfl rfl rfl ?_); refine i_len _ rfl rfl (v := v) rfl h0.out ?_)
      | fail) <;> (try simp only [Act.put, List.setIfInBounds_toArray, List.set_cons_zero, List.set_cons_succ]))
    go_ret
    exact Keep.intro ⟨rfl, Ext.refl _⟩

end Go.Proofs.Ytdoeoncmhaihbaa
namespace Go.Proofs.Ytdoeoncmhaihbaa
set_option maxRecDepth 100000
open Go.RowKit

end Go.Proofs.Ytdoeoncmhaihbaa
