/- The contracts of tag.Key, tag.Of and tag.Right: numbers of 64 bits that go round. -/
import Derived.Test.YtgbhbifdfcfamaaFA
namespace Go.Proofs.Ytgbhbifdfcfamaa
set_option maxRecDepth 100000
open Go.RowKit

def keyB (n : Int) : BitVec 64 := (BitVec.ofInt 64 n + 1#64) * 11400714819323198485#64
def stepB (h : BitVec 64) (c : Nat) : BitVec 64 := (h ^^^ BitVec.ofNat 64 c) * 1099511628211#64
def finB (h : BitVec 64) : BitVec 64 := h ^^^ (h >>> 29)
def markB (key : BitVec 64) (l : List Nat) : BitVec 64 := finB (l.foldl stepB (key ^^^ 14695981039346656037#64))

theorem u64_wrap_bv (z : Int) : IntKind.u64.wrap z = ((BitVec.ofInt 64 z).toNat : Int) := by
  simp [IntKind.wrap, IntKind.bits, IntKind.signed]
  omega
theorem bv_toInt (x : BitVec 64) : BitVec.ofInt 64 (x.toNat : Int) = x := by
  apply BitVec.eq_of_toNat_eq
  have := x.isLt
  simp
theorem u64_xor_bv (x y : BitVec 64) : bits .xor .u64 (x.toNat : Int) (y.toNat : Int) = ((x ^^^ y).toNat : Int) := by
  rw [u64_xor_nat _ _ x.isLt y.isLt, BitVec.toNat_xor]
theorem u64_mul_bv (x y : BitVec 64) : IntKind.u64.wrap ((x.toNat : Int) * (y.toNat : Int)) = ((x * y).toNat : Int) := by
  rw [u64_wrap_bv, BitVec.ofInt_mul, bv_toInt, bv_toInt]
theorem u64_add_bv (x y : BitVec 64) : IntKind.u64.wrap ((x.toNat : Int) + (y.toNat : Int)) = ((x + y).toNat : Int) := by
  rw [u64_wrap_bv, BitVec.ofInt_add, bv_toInt, bv_toInt]

theorem stepB_val (s : BitVec 64) (c : Nat) (hc : c < 256) : Hid (IntKind.u64.wrap (bits .xor .u64 (s.toNat : Int) (c : Int) * 1099511628211) = ((stepB s c).toNat : Int)) := by
  have h1 : (c : Int) = ((BitVec.ofNat 64 c).toNat : Int) := by rw [BitVec.toNat_ofNat, Nat.mod_eq_of_lt (by omega)]
  have h2 : (1099511628211 : Int) = ((1099511628211#64).toNat : Int) := rfl
  unfold Hid stepB
  rw [h2, h1, u64_xor_bv, u64_mul_bv]
theorem finB_val (x : BitVec 64) : bits .xor .u64 (x.toNat : Int) ((x.toNat : Int) / 536870912) = ((finB x).toNat : Int) := by
  have h1 : (x.toNat : Int) / (536870912 : Int) = ((x >>> 29).toNat : Int) := by
    rw [BitVec.toNat_ushiftRight, Nat.shiftRight_eq_div_pow]; rfl
  refine (congrArg (bits .xor .u64 (x.toNat : Int)) h1).trans ?_
  rw [u64_xor_bv]; rfl

/-- v reads as a list of slices that read as the lists ls. -/
def Parts (w : World) (v : Value) (ls : List (List Nat)) : Prop := ∃ vs : List Value, Sl w v vs ∧ vs.length = ls.length ∧ ∀ (k : Nat) (u : Value) (l : List Nat), vs[k]? = some u → ls[k]? = some l → Byt w u l
theorem Parts.ext {w w' : World} {v : Value} {ls : List (List Nat)} (h : Parts w v ls) (he : Ext w w') : Parts w' v ls := by
  obtain ⟨vs, h1, h2, h3⟩ := h
  exact ⟨vs, h1.ext he, h2, fun k u l hu hl => (h3 k u l hu hl).ext he⟩
theorem Parts.nil (w : World) : Parts w (.slice none 0 0) [] := ⟨[], Sl.nil w, rfl, fun k u l h => by simp at h⟩

theorem Try.infoBB : (Try.prog.info? 33).map (fun i => (i.zero, i.size, i.bytes)) = some (some (.slice none 0 0), 1, 24) := by kernel_rfl
theorem Try.elBB : El Try.prog 29 33 (.slice none 0 0) 24 := by
  obtain ⟨i0, hi, hz0, hz1, hz2⟩ := info_parts Try.infoBB
  exact ⟨Try.underlying29, ⟨i0, hi, hz0, hz1, hz2⟩, rfl, by omega⟩

set_option maxRecDepth 100000 in
theorem Key_any (n : Int) (w : World) : Calls Try.prog 46 #[.int .i64 n] w fun e w' => e = .returned (.int .u64 ((keyB n).toNat : Int)) ∧ w = w' := by
  have hk : Hid (IntKind.u64.wrap (IntKind.u64.wrap (IntKind.u64.wrap n + 1) * 11400714819323198485) = ((keyB n).toNat : Int)) := by
    have h1 : (1 : Int) = ((1#64).toNat : Int) := rfl
    have h2 : (11400714819323198485 : Int) = ((11400714819323198485#64).toNat : Int) := rfl
    unfold Hid keyB
    rw [h2, h1, u64_wrap_bv n, u64_add_bv, u64_mul_bv]
  go_enter Try.func46, Try.ntmps46
  go_wp2
  go_ret
  refine ⟨?_, rfl⟩
  show Ending.returned (.int .u64 _) = _
  rw [hk.out]

theorem take_snoc' {α : Type} (l : List α) (k : Nat) (h : k < l.length) : l.take (k + 1) = l.take k ++ [l[k]] := by
  rw [List.take_succ_eq_append_getElem h]

set_option maxRecDepth 100000 in
set_option maxHeartbeats 400000 in
theorem Of_any (key : BitVec 64) (v : Value) (ls : List (List Nat)) (w : World) (hb : ∀ l ∈ ls, ∀ x ∈ l, x < 256) (h : Parts w v ls) :
    Calls Try.prog 67 #[.int .u64 (key.toNat : Int), v] w fun e w' => e = .returned (.int .u64 ((markB key ls.flatten).toNat : Int)) ∧ w = w' := by
  refine calls_keep ?_
  obtain ⟨vs, hs, hlen, hparts⟩ := h
  have hP := hide_ hparts
  have hL := hide_ hlen
  have hm := hs.len_le
  unfold maxLen at hm
  clear hparts hlen
  have hstart : Hid (bits .xor .u64 (key.toNat : Int) 14695981039346656037 = ((key ^^^ 14695981039346656037#64).toNat : Int)) := by
    unfold Hid; exact u64_xor_bv key 14695981039346656037#64
  obtain ⟨s0, hs0⟩ : ∃ s0, s0 = key ^^^ 14695981039346656037#64 := ⟨_, rfl⟩
  have Hs0 := hide_ hs0
  rw [← hs0] at hstart
  clear hs0
  go_enter Try.func67, Try.ntmps67
  go_wp2_with (refine w_len Try.elBB _ rfl rfl rfl (by assumption) ?_)
  rw [hstart.out]
  go_loop [5, 14] (fun m i => ∃ k : Nat, k ≤ vs.length ∧ i = .int .i64 k ∧ m = .int .u64 (((ls.take k).flatten.foldl stepB s0).toNat : Int)) (fun _ i => vs.length - (intOf i).toNat)
  case atStart => exact ⟨0, Nat.zero_le _, rfl, rfl⟩
  case round =>
    obtain ⟨k, hk, rfl, rfl⟩ := hrel
    by_cases hlt : k < vs.length
    · obtain ⟨s1, hs1⟩ : ∃ s1, s1 = (ls.take k).flatten.foldl stepB s0 := ⟨_, rfl⟩
      rw [← hs1]
      have Hs1 := hide_ hs1
      clear hs1
      have hkl : k < ls.length := by rw [← hL.out]; exact hlt
      have hB := hP.out k vs[k] ls[k] (List.getElem?_eq_getElem hlt) (List.getElem?_eq_getElem hkl)
      obtain ⟨u, hu⟩ : ∃ u, u = vs[k] := ⟨_, rfl⟩
      obtain ⟨l, hl⟩ : ∃ l, l = ls[k] := ⟨_, rfl⟩
      rw [← hu, ← hl] at hB
      have hlb : ∀ x ∈ l, x < 256 := by rw [hl]; exact hb _ (List.getElem_mem hkl)
      have Hl := hide_ hl
      have Hu := hide_ hu
      have Hlb := hide_ hlb
      clear hl hlb hu hb
      have hml := hB.len_le
      unfold maxLen at hml
      go_wp2_with (first | (refine w_idx Try.elBB _ _ k rfl rfl rfl (by assumption) rfl hlt ?_; intro ad hc; rw [← Hu.out] at hc) | (refine b_len _ rfl rfl rfl (by assumption) ?_))
      go_loop [5, 20] (fun m i => ∃ j : Nat, j ≤ l.length ∧ i = .int .i64 j ∧ m = .int .u64 (((l.take j).foldl stepB s1).toNat : Int)) (fun _ i => l.length - (intOf i).toNat)
      case atStart => exact ⟨0, Nat.zero_le _, rfl, rfl⟩
      case round =>
        obtain ⟨j, hj, rfl, rfl⟩ := hrel
        by_cases hjl : j < l.length
        · have hx := Hlb.out l[j] (List.getElem_mem hjl)
          have hst := stepB_val ((l.take j).foldl stepB s1) l[j] hx
          have hsn : Hid ((l.take (j + 1)).foldl stepB s1 = stepB ((l.take j).foldl stepB s1) l[j]) := by
            unfold Hid; rw [take_snoc' l j hjl, List.foldl_append]; rfl
          obtain ⟨s2, hs2⟩ : ∃ s2, s2 = (l.take j).foldl stepB s1 := ⟨_, rfl⟩
          rw [← hs2] at hst hsn ⊢
          clear hs2
          go_wp2_with (refine b_idx _ _ j rfl rfl rfl (by assumption) rfl hjl ?_; intro ad2 hc2)
          rw [hst.out]
          go_round
          case rel => exact ⟨j + 1, by omega, by go_num, by rw [hsn.out]⟩
          case measure => simp [intOf]; omega
        · have hjj : j = l.length := by omega
          have Hj := hide_ (show (l.take j).foldl stepB s1 = ((ls.take (k + 1)).flatten.foldl stepB s0) from by
            rw [hjj, List.take_length, Hs1.out, take_snoc' ls k hkl, List.flatten_append, List.foldl_append]; simp [Hl.out])
          clear hjj
          go_wp2
          go_round
          case rel => exact ⟨k + 1, by omega, by go_num, by rw [Hj.out]⟩
          case measure => simp [intOf]; omega
    · have hkk : k = vs.length := by omega
      have Hf := hide_ (show bits .xor .u64 ((((ls.take k).flatten.foldl stepB s0).toNat : Int)) ((((ls.take k).flatten.foldl stepB s0).toNat : Int) / 536870912) = ((markB key ls.flatten).toNat : Int) from by
        rw [hkk, hL.out, List.take_length, Hs0.out]; exact finB_val _)
      clear hkk
      go_wp2
      go_ret
      refine Keep.intro ⟨?_, rfl⟩
      show Ending.returned (.int .u64 _) = _
      rw [Hf.out]
/-- A new list of slices. -/
theorem parts_lit {w : World} {us : List Value} {ls : List (List Nat)} (hl : us.length = ls.length) (hn : ls.length ≤ 1000) (h : ∀ (k : Nat) (u : Value) (l : List Nat), us[k]? = some u → ls[k]? = some l → Byt w u l) {cs : Array Value} {fz : Nat × Nat} {n c N : Nat} (hN : N = w.heap.size) (hc : cs = us.toArray) (hn' : n = us.length) (hc' : c = us.length) :
    Parts (w.alloc (.cells cs 33 fz)) (.slice (some ⟨N, 0, none⟩) n c) ls := by
  subst hc hn' hc' hN
  refine ⟨us, ⟨some ⟨w.heap.size, 0, none⟩, us.length, rfl, Nat.le_refl _, by simp only [maxLen]; omega, fun k u hk => ⟨_, rfl, ?_⟩⟩, hl, fun k u l hu hl => (h k u l hu hl).ext ((Ext.refl _).alloc _)⟩
  have hadd : (⟨w.heap.size, 0, none⟩ : Addr).add k = ⟨w.heap.size, k, none⟩ := by unfold Addr.add; split <;> simp_all
  rw [hadd, cell_of_row _ w.heap.size k _ 33 fz (heap_alloc_new w _)]
  simpa using hk
theorem parts_one {w : World} {N : Nat} (hN : N = w.heap.size) {u : Value} {l : List Nat} (h : Byt w u l) : Parts (w.alloc (.cells #[u] 33)) (.slice (some ⟨N, 0, none⟩) 1 1) [l] :=
  parts_lit (us := [u]) (ls := [l]) rfl (by simp) (fun k u' l' hu hl => by
    cases k with
    | zero => simp at hu hl; subst hu hl; exact h
    | succ k => simp at hu) hN rfl rfl rfl
theorem parts_two {w : World} {N : Nat} (hN : N = w.heap.size) {u u' : Value} {l l' : List Nat} (h : Byt w u l) (h' : Byt w u' l') : Parts (w.alloc (.cells #[u, u'] 33)) (.slice (some ⟨N, 0, none⟩) 2 2) [l, l'] :=
  parts_lit (us := [u, u']) (ls := [l, l']) rfl (by simp) (fun k u' l' hu hl => by
    match k, hu, hl with
    | 0, hu, hl => simp at hu hl; subst hu hl; exact h
    | 1, hu, hl => simp at hu hl; subst hu hl; exact h'
    | k + 2, hu, hl => simp at hu) hN rfl rfl rfl
theorem parts_three {w : World} {N : Nat} (hN : N = w.heap.size) {u u' u2 : Value} {l l' l2 : List Nat} (h : Byt w u l) (h' : Byt w u' l') (h2 : Byt w u2 l2) : Parts (w.alloc (.cells #[u, u', u2] 33)) (.slice (some ⟨N, 0, none⟩) 3 3) [l, l', l2] :=
  parts_lit (us := [u, u', u2]) (ls := [l, l', l2]) rfl (by simp) (fun k u' l' hu hl => by
    match k, hu, hl with
    | 0, hu, hl => simp at hu hl; subst hu hl; exact h
    | 1, hu, hl => simp at hu hl; subst hu hl; exact h'
    | 2, hu, hl => simp at hu hl; subst hu hl; exact h2
    | k + 3, hu, hl => simp at hu) hN rfl rfl rfl

/-- A list of slices written out. -/
theorem w_parts {ops : Array Oper} {rest : List Oper} {o : Oper} {a : Act} {Q : Exit → Act → World → Prop} {w : World} {n : Nat} {ps : Array (Nat × Operand)} (us : List Value) (ls : List (List Nat)) (hgd : o.guard = none) (ho : o.op = .buildSlice 29 n ps)
    (hps : (ps.toList.map fun x => (x.1, a.eval x.2)) = (us.zipIdx 0).map fun p => (p.2, p.1)) (hl : us.length = ls.length) (hby : ∀ (k : Nat) (u : Value) (l : List Nat), us[k]? = some u → ls[k]? = some l → Byt w u l) (hn : n = us.length) (hs : n ≤ 1000000)
    (k : ∀ v' w', Ext w w' → Parts w' v' ls → wpList Try.prog ops Q rest (a.put o.dst v') w') : wpList Try.prog ops Q (o :: rest) a w := by
  refine w_new Try.elBB us hgd ho hps (fun u hu => ?_) hn hs fun v' w' hx h => k v' w' hx ⟨us, Sl.of_own h, hl, fun k u l hu hl => (hby k u l hu hl).ext hx⟩
  obtain ⟨i, hi, rfl⟩ := List.getElem_of_mem hu
  exact (hby i _ (ls[i]'(by omega)) (List.getElem?_eq_getElem hi) (List.getElem?_eq_getElem (by omega))).oneCell
theorem byts1 {w : World} {u : Value} {l : List Nat} (h : Byt w u l) : ∀ (k : Nat) (u' : Value) (l' : List Nat), [u][k]? = some u' → [l][k]? = some l' → Byt w u' l' := by
  intro k u' l' hu hl
  match k, hu, hl with
  | 0, hu, hl => simp at hu hl; subst hu hl; exact h
  | k + 1, hu, hl => simp at hu
theorem byts2 {w : World} {u u2 : Value} {l l2 : List Nat} (h : Byt w u l) (h2 : Byt w u2 l2) : ∀ (k : Nat) (u' : Value) (l' : List Nat), [u, u2][k]? = some u' → [l, l2][k]? = some l' → Byt w u' l' := by
  intro k u' l' hu hl
  match k, hu, hl with
  | 0, hu, hl => simp at hu hl; subst hu hl; exact h
  | 1, hu, hl => simp at hu hl; subst hu hl; exact h2
  | k + 2, hu, hl => simp at hu
theorem byts3 {w : World} {u u2 u3 : Value} {l l2 l3 : List Nat} (h : Byt w u l) (h2 : Byt w u2 l2) (h3 : Byt w u3 l3) : ∀ (k : Nat) (u' : Value) (l' : List Nat), [u, u2, u3][k]? = some u' → [l, l2, l3][k]? = some l' → Byt w u' l' := by
  intro k u' l' hu hl
  match k, hu, hl with
  | 0, hu, hl => simp at hu hl; subst hu hl; exact h
  | 1, hu, hl => simp at hu hl; subst hu hl; exact h2
  | 2, hu, hl => simp at hu hl; subst hu hl; exact h3
  | k + 3, hu, hl => simp at hu

theorem bv_beq (x y : BitVec 64) : (((x.toNat : Nat) : Int) == ((y.toNat : Nat) : Int)) = decide (x = y) := by
  rw [Bool.eq_iff_iff]
  simp only [beq_iff_eq, decide_eq_true_eq, Int.ofNat_inj, BitVec.toNat_inj]

set_option maxRecDepth 100000 in
theorem TagRight_any (key m : BitVec 64) (v : Value) (l : List Nat) (w : World) (hb : ∀ x ∈ l, x < 256) (hv : Byt w v l) (b : Bool) (hbool : decide (markB key l = m) = b) :
    Calls Try.prog 45 #[.int .u64 (key.toNat : Int), .int .u64 (m.toNat : Int), v] w fun e w' => e = .returned (.bool b) ∧ Ext w w' := by
  refine calls_keep ?_
  have hfl : [l].flatten = l := by simp
  have Hfl := hide_ hfl
  clear hfl
  have hq := bv_beq (markB key l) m
  rw [hbool] at hq
  have Hb := hide_ hb
  clear hb hbool
  go_enter Try.func45, Try.ntmps45
  go_wp2_with (first
    | (refine w_build Try.elBB 1 _ [v] rfl rfl rfl (one1 hv.oneCell) rfl (by omega) ?_)
    | (go_at_call 67; refine (Of_any key _ [l] _ (by simpa using Hb.out) (parts_one rfl hv)).mono ?_; rintro e w1 ⟨rfl, rfl⟩; rw [Hfl.out]))
  go_ret
  exact Keep.intro ⟨rfl, (Ext.refl _).alloc _⟩
end Go.Proofs.Ytgbhbifdfcfamaa
