/- Blocks in whichever order, as plain mathematics; a rest of a division. -/
import Derived.Test.YtabelhoncmnpgaaTLh
namespace Go.Proofs.Ytabelhoncmnpgaa
set_option maxRecDepth 100000
open Go.RowKit

section
variable {P : Program} {ops : Array Oper} {rest : List Oper} {o : Oper} {a : Act} {Q : Exit → Act → World → Prop} {w : World} {ty : TypeId}
theorem runs_rem {ρ : Operand → Value} (x y : Operand) {p q r : Nat} (hq : 0 < q) (hr : r = p % q) (ho : o.op = .binOp .rem ty x y ty) (hx : ρ x = .int .i64 (p : Nat)) (hy : ρ y = .int .i64 (q : Nat)) : Runs P o ρ w (.int .i64 (r : Nat)) := by
  unfold Runs execOp
  simp [ho, hx, hy, eqGuard, binOp, go_sem]
  rw [if_neg (by omega), hr, Int.ofNat_tmod]
end

namespace TrS
/-- The first k blocks, those with a name. -/
def some_ (l : List BlkD) : List BlkD := l.filter fun b => decide (b.name ≠ 0)
theorem after_st {l : List BlkD} (hl : l.length ≤ 16) (hn : (l.map BlkD.name).Nodup) : ∀ k, k ≤ l.length → After (some_ (l.take k)) (st l k)
  | 0, _ => by rw [st_zero]; exact After.nil
  | k + 1, hk => by
    have ih := after_st hl hn k (by omega)
    have hk' : k < l.length := by omega
    have hd : l[k]? = some l[k] := List.getElem?_eq_getElem hk'
    rw [st_succ hd, List.take_add_one, hd]
    have e : some_ (l.take k ++ (some l[k]).toList) = some_ (l.take k) ++ some_ [l[k]] := List.filter_append ..
    rw [e]
    by_cases h0 : l[k].name = 0
    · have e2 : TrS.add (st l k) l[k] = (st l k, [], false) := if_pos (.inl h0)
      rw [e2]
      simpa [some_, h0] using ih
    · have e3 : some_ [l[k]] = [l[k]] := by simp [some_, h0]
      rw [e3]
      refine ih.add h0 (fun x hx he => ?_) ?_
      · have hx1 : x ∈ l.take k := (List.mem_filter.1 hx).1
        obtain ⟨j, hj, hjx⟩ := List.getElem_of_mem hx1
        have hj1 : j < k := by simp at hj; omega
        rw [List.getElem_take] at hjx
        have h1 : (l.map BlkD.name)[j]? = some x.name := by simp [List.getElem?_eq_getElem (show j < l.length by omega), hjx]
        have h2 : (l.map BlkD.name)[k]? = some x.name := by simp [hd, he]
        have := (List.getElem?_inj (by simp; omega) hn).1 (h1.trans h2.symm)
        omega
      · have : (some_ (l.take k)).length ≤ (l.take k).length := List.length_filter_le _ _
        simp at this; omega
theorem height_same {t u : TrS} (ht : Good t) (hu : Good u) (h : ∀ b, b ∈ t.known ↔ b ∈ u.known) {c : BlkD} (hc : c ∈ t.known) : TrS.height u.known c.name = TrS.height t.known c.name := height_mono ht.uq hu.uq ht.stood (fun x hx => (h x).1 hx) hc
theorem turns_eq {l m : List BlkD} (hl : l.length ≤ 16) (hn : (l.map BlkD.name).Nodup) (hp : l.Perm m) :
    names (st l l.length).known = names (st m m.length).known ∧ tip (st l l.length).known = tip (st m m.length).known ∧ (st l l.length).wait.length = (st m m.length).wait.length ∧ missing (st l l.length) = missing (st m m.length) := by
  have hlen := hp.length_eq
  have A := after_st hl hn l.length (Nat.le_refl _)
  have B := after_st (l := m) (by omega) ((hp.map BlkD.name).nodup_iff.1 hn) m.length (Nat.le_refl _)
  have gT := st_good l l.length
  have gU := st_good m m.length
  rw [List.take_length] at A B
  obtain ⟨t, ht⟩ : ∃ t, st l l.length = t := ⟨_, rfl⟩
  obtain ⟨u, hu⟩ : ∃ u, st m m.length = u := ⟨_, rfl⟩
  rw [ht] at A gT
  rw [hu] at B gU
  rw [ht, hu]
  have hperm : (some_ l).Perm (some_ m) := hp.filter _
  obtain ⟨hk, _, hs⟩ := A.turns B hperm
  have hN : names t.known = names u.known := by
    refine Rise.eq (rise_rise _) (rise_rise _) fun x => ?_
    show x ∈ names t.known ↔ x ∈ names u.known
    rw [mem_names, mem_names]
    exact ⟨fun ⟨b, h1, h2⟩ => ⟨b, (hk b).1 h1, h2⟩, fun ⟨b, h1, h2⟩ => ⟨b, (hk b).2 h1, h2⟩⟩
  have hKl : t.known.length = u.known.length := by
    have h1 := gT.names_len; have h2 := gU.names_len
    rw [hN] at h1; omega
  have hW : t.wait.length = u.wait.length := by omega
  have nd : ∀ {K : List BlkD}, (K.map BlkD.name).Nodup → K.Nodup := fun {K} h => (List.pairwise_map.1 h).imp (fun {a b} (hne : a.name ≠ b.name) (e : a = b) => hne (congrArg BlkD.name e))
  have ndT : t.known.Nodup := nd (by have := gT.nodup; rw [List.map_append] at this; exact (List.nodup_append.1 this).1)
  have ndU : u.known.Nodup := nd (by have := gU.nodup; rw [List.map_append] at this; exact (List.nodup_append.1 this).1)
  have pK : t.known.Perm u.known := (List.perm_ext_iff_of_nodup ndT ndU).2 hk
  have pW : t.wait.Perm u.wait := by
    have h1 : (t.known ++ t.wait).Perm (u.known ++ u.wait) := A.perm.trans (hperm.trans B.perm.symm)
    exact (List.perm_append_left_iff t.known).1 (h1.trans (List.Perm.append_right _ pK.symm))
  have hR : ∀ b, ready t.known b = ready u.known b := fun b => by
    rw [Bool.eq_iff_iff, ready_iff, ready_iff]
    exact or_congr Iff.rfl ⟨fun ⟨x, h1, h2⟩ => ⟨x, (hk x).1 h1, h2⟩, fun ⟨x, h1, h2⟩ => ⟨x, (hk x).2 h1, h2⟩⟩
  have hH : ∀ n, has t.wait n = has u.wait n := fun n => by
    rw [Bool.eq_iff_iff, has_iff, has_iff]
    exact ⟨fun ⟨x, h1, h2⟩ => ⟨x, pW.mem_iff.1 h1, h2⟩, fun ⟨x, h1, h2⟩ => ⟨x, pW.mem_iff.2 h1, h2⟩⟩
  refine ⟨hN, ?_, hW, ?_⟩
  · refine IsTip.uniq (K := u.known) ?_ gU.uq.tip
    have hT := gT.uq.tip
    have e : TrS.height u.known (TrS.tip t.known) = TrS.height t.known (TrS.tip t.known) := by
      rcases tip_or gT with h0 | ⟨c, hc, hcn⟩
      · rw [h0, height_zero, height_zero]
      · rw [← hcn]; exact height_same gT gU hk hc
    refine ⟨hT.mem.imp (fun ⟨h1, h2⟩ => ⟨h1, ?_⟩) (fun ⟨b, h1, h2⟩ => ⟨b, (hk b).1 h1, h2⟩), fun b hb => ?_⟩
    · rw [e, height_same gT gU hk ((hk b).2 hb)]
      exact hT.top b ((hk b).2 hb)
    · rw [h2] at hKl
      exact List.eq_nil_of_length_eq_zero hKl.symm
  · refine Rise.eq (rise_rise _) (rise_rise _) fun x => ?_
    show x ∈ missing t ↔ x ∈ missing u
    rw [mem_missing, mem_missing]
    constructor
    · rintro ⟨b, h1, h2, h3, h4⟩; exact ⟨b, pW.mem_iff.1 h1, h2, by rw [← hR]; exact h3, by rw [← hH]; exact h4⟩
    · rintro ⟨b, h1, h2, h3, h4⟩; exact ⟨b, pW.mem_iff.2 h1, h2, by rw [hR]; exact h3, by rw [hH]; exact h4⟩
/-- The other order: backwards, from one of them on. -/
def turned (l : List BlkD) (c : Nat) : List BlkD := (l.take (c % l.length + 1)).reverse ++ (l.drop (c % l.length + 1)).reverse
theorem turned_perm (l : List BlkD) (c : Nat) : l.Perm (turned l c) := by
  have h : (turned l c).Perm (l.take (c % l.length + 1) ++ l.drop (c % l.length + 1)) := List.Perm.append (List.reverse_perm _) (List.reverse_perm _)
  rw [List.take_append_drop] at h
  exact h.symm
theorem turned_at {l : List BlkD} {c i : Nat} (hi : i < l.length) (hc : l.length - 1 ≤ c) : (turned l c)[i]? = l[(c - i) % l.length]? := by
  have hs : c % l.length < l.length := Nat.mod_lt _ (by omega)
  have hdm := Nat.div_add_mod c l.length
  obtain ⟨s, hse⟩ : ∃ s, c % l.length = s := ⟨_, rfl⟩
  obtain ⟨q, hqe⟩ : ∃ q, c / l.length = q := ⟨_, rfl⟩
  unfold turned
  rw [hse] at hs hdm ⊢
  rw [hqe] at hdm
  have hlt : (l.take (s + 1)).reverse.length = s + 1 := by simp; omega
  by_cases his : i ≤ s
  · have e : (c - i) % l.length = s - i := by
      have : c - i = (s - i) + l.length * q := by omega
      rw [this, Nat.add_mul_mod_self_left, Nat.mod_eq_of_lt (by omega)]
    rw [e, List.getElem?_append_left (by omega), List.getElem?_reverse (by simp; omega), List.getElem?_take_of_lt (by simp; omega)]
    congr 1; simp; omega
  · have hq : q ≠ 0 := by
      rintro rfl; simp at hdm; omega
    obtain ⟨q', rfl⟩ := Nat.exists_eq_succ_of_ne_zero hq
    have e : (c - i) % l.length = l.length + s - i := by
      rw [Nat.mul_succ] at hdm
      have : c - i = (l.length + s - i) + l.length * q' := by
        generalize l.length * q' = z at hdm ⊢
        omega
      rw [this, Nat.add_mul_mod_self_left, Nat.mod_eq_of_lt (by omega)]
    rw [e, List.getElem?_append_right (by omega), hlt, List.getElem?_reverse (by simp; omega), List.getElem?_drop]
    congr 1; simp; omega
end TrS

/-- A rest of a division, in a walk. -/
theorem w_rem {P : Program} {ops : Array Oper} {rest : List Oper} {o : Oper} {a : Act} {Q : Exit → Act → World → Prop} {w : World} {ty : TypeId} (x y : Operand) {X Y : Int} {p q r : Nat} (hgd : o.guard = none) (ho : o.op = .binOp .rem ty x y ty) (hx : a.eval x = .int .i64 X) (hy : a.eval y = .int .i64 Y) (hX : X = (p : Nat)) (hY : Y = (q : Nat)) (hq : 0 < q) (hr : p % q = r)
    (k : wpList P ops Q rest (a.put o.dst (.int .i64 (r : Nat))) w) : wpList P ops Q (o :: rest) a w := by
  subst hX hY
  exact wpList_runs hgd (runs_rem x y hq hr.symm ho hx hy) k
/-- Two trees, each in blocks of its own, beside what was there at W. -/
structure Two (W : World) (G1 G2 : Nat → Prop) (w : World) (p1 p2 : Nat) (K1 V1 K2 V2 : List BlkD) : Prop where
  a : TrW G1 w p1 K1 V1
  b : TrW G2 w p2 K2 V2
  off : ∀ k, G1 k → ¬ G2 k
  lt1 : ∀ k, G1 k → k < w.heap.size
  lt2 : ∀ k, G2 k → k < w.heap.size
  new1 : ∀ k, G1 k → W.heap.size ≤ k
  new2 : ∀ k, G2 k → W.heap.size ≤ k
  ext : Ext W w
section
variable {W w w' : World} {G1 G2 G : Nat → Prop} {p1 p2 : Nat} {K1 V1 K2 V2 K V : List BlkD}
theorem Two.extend (h : Two W G1 G2 w p1 p2 K1 V1 K2 V2) (he : Ext w w') : Two W G1 G2 w' p1 p2 K1 V1 K2 V2 :=
  ⟨h.a.ext he, h.b.ext he, h.off, fun k hk => Nat.lt_of_lt_of_le (h.lt1 k hk) he.size, fun k hk => Nat.lt_of_lt_of_le (h.lt2 k hk) he.size, h.new1, h.new2, h.ext.trans he⟩
theorem Two.addA (h : Two W G1 G2 w p1 p2 K1 V1 K2 V2) (hU : Upd G1 G w w') (hT : TrW G w' p1 K V) : Two W G G2 w' p1 p2 K V K2 V2 := by
  have hs := h.ext.size
  have hs2 := hU.size
  refine ⟨hT, h.b.mod hU.mod fun k h2 h1 => h.off k h1 h2, fun k hk h2 => ?_, fun k hk => ?_, fun k hk => Nat.lt_of_lt_of_le (h.lt2 k hk) hs2, fun k hk => ?_, h.new2, hU.mod.after h.ext h.new1⟩
  · rcases hU.sub k hk with h1 | h1
    · exact h.off k h1 h2
    · have := h.lt2 k h2; omega
  · rcases hU.sub k hk with h1 | h1
    · exact Nat.lt_of_lt_of_le (h.lt1 k h1) hs2
    · exact h1.2
  · rcases hU.sub k hk with h1 | h1
    · exact h.new1 k h1
    · omega
theorem Two.swap (h : Two W G1 G2 w p1 p2 K1 V1 K2 V2) : Two W G2 G1 w p2 p1 K2 V2 K1 V1 := ⟨h.b, h.a, fun k h2 h1 => h.off k h1 h2, h.lt2, h.lt1, h.new2, h.new1, h.ext⟩
theorem Two.addB (h : Two W G1 G2 w p1 p2 K1 V1 K2 V2) (hU : Upd G2 G w w') (hT : TrW G w' p2 K V) : Two W G1 G w' p1 p2 K1 V1 K V := (h.swap.addA hU hT).swap
theorem Two.start {w0 w1 w2 : World} {Ga Gb : Nat → Prop} (hX : Ext W w0) (ha : TrW Ga w1 p1 K1 V1) (hx1 : Ext w0 w1) (hga : ∀ k, Ga k → w0.heap.size ≤ k) (hb : TrW Gb w2 p2 K2 V2) (hx2 : Ext w1 w2) (hgb : ∀ k, Gb k → w1.heap.size ≤ k) : ∃ G1 G2 : Nat → Prop, Two W G1 G2 w2 p1 p2 K1 V1 K2 V2 := by
  have s0 := hX.size; have s1 := hx1.size; have s2 := hx2.size
  refine ⟨_, _, (ha.trim).ext hx2, hb.trim, fun k h1 h2 => ?_, fun k h => ?_, fun k h => h.2, fun k h => ?_, fun k h => ?_, (hX.trans hx1).trans hx2⟩
  · have := hgb k h2.1; have := h1.2; omega
  · have := h.2; omega
  · have := hga k h.1; omega
  · have := hgb k h.1; omega
end
end Go.Proofs.Ytabelhoncmnpgaa
