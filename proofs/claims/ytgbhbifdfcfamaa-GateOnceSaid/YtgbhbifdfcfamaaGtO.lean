/- What holds of a gate and of the blocks that were said and passed, act by act; how they lie in memory. -/
import Derived.Test.YtgbhbifdfcfamaaGtLs
import Derived.Test.YtgbhbifdfcfamaaGtAct
namespace Go.Proofs.Ytgbhbifdfcfamaa
set_option maxRecDepth 100000
open Go.RowKit

/-- Of each name one block; each known one was said or passed. -/
structure OneB (g : GaD) (S P : List BlkD) : Prop where
  one : ∀ b ∈ S ++ P, g.find b.name = some b
  kn : ∀ b ∈ g.kn, b ∈ S ++ P
  said : ∀ x ∈ g.said, ∀ m, rdMsg x = some m → m.kd = 1 → m.bk ∈ S
  pass : ∀ b ∈ P, b ∈ S ∨ b.miner ∈ g.bad
namespace OneB
variable {g : GaD} {S P : List BlkD} {x : List Nat} {m : MsgD}
theorem start (bad : List Int) : OneB ⟨bad, [], []⟩ [] [] := ⟨fun _ h => by simp at h, fun _ h => by simp at h, fun _ h => by simp at h, fun _ h => by simp at h⟩
theorem say (h : OneB g S P) (hr : rdMsg x = some m) (hk : m.kd = 1) (hT : ∀ b ∈ S ++ P, b.name = m.bk.name → b = m.bk) : OneB (g.say x) (S ++ [m.bk]) P := by
  rw [GaD.say_blk hr hk]
  have hmem : ∀ b, b ∈ S ++ [m.bk] ++ P ↔ b ∈ S ++ P ∨ b = m.bk := fun b => by simp only [List.mem_append, List.mem_singleton]; constructor <;> (intro h; rcases h with (h | h) | h <;> simp [h])
  have hsd : ∀ g' : GaD, g'.said = g.said ++ [x] → ∀ y ∈ g'.said, ∀ m', rdMsg y = some m' → m'.kd = 1 → m'.bk ∈ S ++ [m.bk] := fun g' he y hy m' hr' hk' => by
    rw [he] at hy
    rcases List.mem_append.1 hy with h1 | h1
    · exact List.mem_append_left _ (h.said y h1 m' hr' hk')
    · rw [List.mem_singleton.1 h1, hr] at hr'; injection hr' with hr'; subst hr'; simp
  cases hf : (g.tell x).find m.bk.name with
  | none =>
    rw [GaD.learn_no hf]
    refine ⟨fun b hb => ?_, fun b hb => ?_, hsd _ rfl, fun b hb => (h.pass b hb).imp (List.mem_append_left _) id⟩
    · rcases (hmem b).1 hb with h1 | h1
      · exact GaD.find_stay (h.one b h1)
      · subst h1; exact GaD.find_know hf
    · rw [hmem]
      rcases List.mem_append.1 (show b ∈ g.kn ++ [m.bk] from hb) with h1 | h1
      · exact .inl (h.kn b h1)
      · exact .inr (List.mem_singleton.1 h1)
  | some c =>
    rw [GaD.learn_yes (by rw [hf]; rfl)]
    obtain ⟨hc, hn⟩ := GaD.find_some hf
    have e := hT c (h.kn c hc) hn
    subst e
    refine ⟨fun b hb => ?_, fun b hb => (hmem b).2 (.inl (h.kn b hb)), hsd _ rfl, fun b hb => (h.pass b hb).imp (List.mem_append_left _) id⟩
    rcases (hmem b).1 hb with h1 | h1
    · exact h.one b h1
    · rw [h1]; exact hf
theorem say_no (h : OneB g S P) (hn : ∀ m, rdMsg x = some m → m.kd ≠ 1) : OneB (g.say x) S P := by
  have e : g.say x = g.tell x := by
    cases hr : rdMsg x with
    | none => exact GaD.say_none hr
    | some m => exact GaD.say_oth hr (hn m hr)
  rw [e]
  refine ⟨h.one, h.kn, fun y hy m' hr' hk' => ?_, h.pass⟩
  rcases List.mem_append.1 (show y ∈ g.said ++ [x] from hy) with h1 | h1
  · exact h.said y h1 m' hr' hk'
  · rw [List.mem_singleton.1 h1] at hr'; exact absurd hk' (hn m' hr')
theorem pass_no (hn : (g.pass x).2 = false ∨ ∀ m, rdMsg x = some m → m.kd ≠ 1) : (g.pass x).1 = g := by
  cases hr : rdMsg x with
  | none => rw [GaD.pass_none hr]
  | some m =>
    rw [GaD.pass_some hr] at hn ⊢
    split
    · rfl
    next h1 =>
    rw [if_neg h1] at hn
    split
    · next h2 =>
      rw [if_pos h2] at hn
      split
      · next h3 =>
        rw [if_pos h3] at hn
        rcases hn with hn | hn
        · cases hf : g.find m.bk.name with
          | some c => rw [GaD.passB_some hf]
          | none =>
            rw [GaD.passB_none hf] at hn ⊢
            split
            · next h4 => rw [if_pos h4] at hn; cases hn
            · rfl
        · exact absurd h3 (hn m hr)
      · rfl
    · rfl
theorem pass_ok (h : OneB g S P) (hr : rdMsg x = some m) (hk : m.kd = 1) (hq : (g.pass x).2 = true) :
    OneB (g.pass x).1 S (P ++ [m.bk]) ∧ (∀ b ∈ S ++ P, b.name = m.bk.name → b = m.bk) ∧ (m.bk ∈ S ∨ m.bk.miner ∈ g.bad) := by
  have key : ∀ g' : GaD, g'.bad = g.bad → g'.said = g.said → (∀ b ∈ S ++ P, g'.find b.name = some b) → g'.find m.bk.name = some m.bk → (∀ b ∈ g'.kn, b ∈ S ++ P ∨ b = m.bk) → (m.bk ∈ S ∨ m.bk.miner ∈ g.bad) →
      OneB g' S (P ++ [m.bk]) ∧ (∀ b ∈ S ++ P, b.name = m.bk.name → b = m.bk) ∧ (m.bk ∈ S ∨ m.bk.miner ∈ g.bad) := fun g' e1 e2 h1 h2 h3 h4 => by
    have hmem : ∀ b, b ∈ S ++ (P ++ [m.bk]) ↔ b ∈ S ++ P ∨ b = m.bk := fun b => by rw [← List.append_assoc, List.mem_append, List.mem_singleton]
    refine ⟨⟨fun b hb => ?_, fun b hb => (hmem b).2 (h3 b hb), fun y hy => by rw [e2] at hy; exact h.said y hy, fun b hb => ?_⟩, fun b hb hn => ?_, h4⟩
    · rcases (hmem b).1 hb with h5 | h5
      · exact h1 b h5
      · rw [h5]; exact h2
    · rw [e1]
      rcases List.mem_append.1 hb with h5 | h5
      · exact h.pass b h5
      · rw [List.mem_singleton.1 h5]; exact h4
    · have := h1 b hb
      rw [hn, h2] at this; injection this with this; exact this.symm
  rw [GaD.pass_some hr] at hq ⊢
  by_cases h1 : x ∈ g.said
  · rw [if_pos h1] at hq ⊢
    have hS := h.said x h1 m hr hk
    exact key g rfl rfl h.one (h.one _ (List.mem_append_left _ hS)) (fun b hb => .inl (h.kn b hb)) (.inl hS)
  rw [if_neg h1] at hq ⊢
  by_cases h2 : m.fm ∈ g.bad
  rotate_left
  · rw [if_neg h2] at hq; cases hq
  rw [if_pos h2, if_pos hk] at hq ⊢
  cases hf : g.find m.bk.name with
  | some c =>
    rw [GaD.passB_some hf] at hq ⊢
    have e : c = m.bk := of_decide_eq_true hq
    subst e
    refine key g rfl rfl h.one hf (fun b hb => .inl (h.kn b hb)) ?_
    rcases List.mem_append.1 (h.kn _ (GaD.find_some hf).1) with h5 | h5
    · exact .inl h5
    · exact h.pass _ h5
  | none =>
    rw [GaD.passB_none hf] at hq ⊢
    by_cases h3 : m.bk.miner ∈ g.bad
    · rw [if_pos h3] at hq ⊢
      refine key (g.know m.bk) rfl rfl (fun b hb => GaD.find_stay (h.one b hb)) (GaD.find_know hf) (fun b hb => ?_) (.inr h3)
      rcases List.mem_append.1 (show b ∈ g.kn ++ [m.bk] from hb) with h5 | h5
      · exact .inl (h.kn b h5)
      · exact .inr (List.mem_singleton.1 h5)
    · rw [if_neg h3] at hq; cases hq
end OneB
/-- An owned row of blocks, whose transactions lie in H. -/
def RowB (H : Nat → Prop) (w : World) (v : Value) (l : List BlkD) : Prop :=
  ∃ rows, RowN (fun k => v.ownBlock = some k) w 46 5 v rows ∧ rows.length = l.length ∧ ∀ (k : Nat) (row : List Value) (d : BlkD), rows[k]? = some row → l[k]? = some d → ∃ u, row = bRw d u ∧ Recs 2 TxR w u d.txs ∧ d.Raw ∧ ∀ j, u.ownBlock = some j → H j
theorem RowN.mapmod {F G : Nat → Prop} {w w' : World} {e : TypeId} {n : Nat} {v : Value} {rows : List (List Value)} (h : RowN G w e n v rows) (hm : Mod F w w') (hF : ∀ k, F k → IsMapB w k) : RowN G w' e n v rows := by
  obtain ⟨⟨hl, ho⟩, h2, h3⟩ := h
  refine ⟨⟨hl, ?_⟩, h2, h3⟩
  rcases ho with hn | ⟨g, cap, cur, hv, hg, hh, rest⟩
  · exact .inl hn
  · refine .inr ⟨g, cap, cur, hv, hg, ?_, rest⟩
    rw [hm.block g (Array.getElem?_eq_some_iff.1 hh).1 fun hf => ?_]
    · exact hh
    · obtain ⟨es, c, hq⟩ := hF _ hf
      rw [hq] at hh; cases hh
theorem RowN.selfown {F : Nat → Prop} {w : World} {e : TypeId} {n : Nat} {v : Value} {rows : List (List Value)} (h : RowN F w e n v rows) : RowN (fun k => v.ownBlock = some k) w e n v rows := ⟨h.own, h.each, fun _ h => h⟩
theorem u_lt {u : Value} {w w' : World} (h : ∀ k, u.ownBlock = some k → k < w.heap.size) (hx : Ext w w') : ∀ k, u.ownBlock = some k → k < w'.heap.size := fun k hk => Nat.lt_of_lt_of_le (h k hk) hx.size
theorem refnameR {w : World} {u : Value} {b : BlkD} (hu : Recs 2 TxR w u b.txs) (hp : I64 b.parent) : Calls Try.prog 17 #[.agg (bRw b u).toArray] w fun e w' => ∃ v', e = .returned v' ∧ Ext w w' ∧ Sp.p (.val (.int .i64 b.name)) v' w' := by
  refine (refBName_any hu hp).mono ?_
  rintro e w' ⟨rfl, hx⟩; exact ⟨_, rfl, hx, rfl⟩
section
variable {H H' F : Nat → Prop} {w w' : World} {v : Value} {l : List BlkD}
theorem RowB.ext (h : RowB H w v l) (he : Ext w w') : RowB H w' v l := by
  obtain ⟨rows, h1, h2, h3⟩ := h
  exact ⟨rows, h1.ext he, h2, fun k row d hk hd => by obtain ⟨u, a, b, c, e⟩ := h3 k row d hk hd; exact ⟨u, a, b.ext TxR.stays he, c, e⟩⟩
theorem RowB.mapmod (h : RowB H w v l) (hm : Mod F w w') (hF : ∀ k, F k → IsMapB w k) : RowB H w' v l := by
  obtain ⟨rows, h1, h2, h3⟩ := h
  exact ⟨rows, h1.mapmod hm hF, h2, fun k row d hk hd => by obtain ⟨u, a, b, c, e⟩ := h3 k row d hk hd; exact ⟨u, a, recsT_mapmod b hm hF, c, e⟩⟩
theorem RowB.mod (h : RowB H w v l) (hm : Mod F w w') (h1 : ∀ k, v.ownBlock = some k → ¬ F k) (h2 : ∀ k, H k → ¬ F k) : RowB H w' v l := by
  obtain ⟨rows, a1, a2, a3⟩ := h
  exact ⟨rows, a1.mod hm (fun k hk => h1 k hk), a2, fun k row d hk hd => by obtain ⟨u, a, b, c, e⟩ := a3 k row d hk hd; exact ⟨u, a, recsT_modB b hm (fun j hj => h2 j (e j hj)), c, e⟩⟩
theorem RowB.mono (h : RowB H w v l) (hs : ∀ k, H k → H' k) : RowB H' w v l := by
  obtain ⟨rows, a1, a2, a3⟩ := h
  exact ⟨rows, a1, a2, fun k row d hk hd => by obtain ⟨u, a, b, c, e⟩ := a3 k row d hk hd; exact ⟨u, a, b, c, fun j hj => hs j (e j hj)⟩⟩
theorem RowB.lt (h : RowB H w v l) {k : Nat} (hk : v.ownBlock = some k) : k < w.heap.size := by obtain ⟨rows, a1, _⟩ := h; exact a1.lt hk
theorem RowB.nil (h : RowN F w 46 5 v []) : RowB H w v [] := ⟨[], ⟨h.own, h.each, fun _ h => h⟩, rfl, fun k row d hk => by simp at hk⟩
theorem RowB.recs (h : RowB H w v l) : ∃ rows, SlS w v 5 rows ∧ rows.length = l.length ∧ ∀ (k : Nat) (row : List Value) (d : BlkD), rows[k]? = some row → l[k]? = some d → ∃ u, row = bRw d u ∧ Recs 2 TxR w u d.txs ∧ d.Raw := by
  obtain ⟨rows, a1, a2, a3⟩ := h
  exact ⟨rows, a1.slS, a2, fun k row d hk hd => by obtain ⟨u, a, b, c, _⟩ := a3 k row d hk hd; exact ⟨u, a, b, c⟩⟩
end
theorem rows_one {w : World} {rows : List (List Value)} {l : List BlkD} (hl : rows.length = l.length) (hR : ∀ (k : Nat) (row : List Value) (d : BlkD), rows[k]? = some row → l[k]? = some d → ∃ u, row = bRw d u ∧ Recs 2 TxR w u d.txs ∧ d.Raw) : ∀ y ∈ rows, ∀ x ∈ y, x.oneCell' = true := fun y hy => by
  obtain ⟨k, hk, rfl⟩ := List.getElem_of_mem hy
  obtain ⟨u, e, hu, _⟩ := hR k _ _ (List.getElem?_eq_getElem hk) (List.getElem?_eq_getElem (by omega))
  rw [e]; exact blk_one hu.oneC
theorem rows_two {w : World} {r6 r7 : List (List Value)} {S P : List BlkD} (h6 : r6.length = S.length) (hR6 : ∀ (k : Nat) (row : List Value) (d : BlkD), r6[k]? = some row → S[k]? = some d → ∃ u, row = bRw d u ∧ Recs 2 TxR w u d.txs ∧ d.Raw) (_h7 : r7.length = P.length) (hR7 : ∀ (k : Nat) (row : List Value) (d : BlkD), r7[k]? = some row → P[k]? = some d → ∃ u, row = bRw d u ∧ Recs 2 TxR w u d.txs ∧ d.Raw) :
    ∀ (k : Nat) (row : List Value) (d : BlkD), (r6 ++ r7)[k]? = some row → (S ++ P)[k]? = some d → ∃ u, row = bRw d u ∧ Recs 2 TxR w u d.txs ∧ d.Raw := fun k row d hk hd => by
  by_cases h : k < r6.length
  · rw [List.getElem?_append_left h] at hk
    rw [List.getElem?_append_left (by omega)] at hd
    exact hR6 k row d hk hd
  · rw [List.getElem?_append_right (by omega)] at hk
    rw [List.getElem?_append_right (by omega)] at hd
    rw [h6] at hk
    exact hR7 _ row d hk hd
/-- The gate and both rows of blocks, all apart. -/
structure LwS (w : World) (p g1 g2 : Nat) (vgb : Value) (g : GaD) (v6 v7 : Value) (S P : List BlkD) (G H : Nat → Prop) : Prop where
  ga : GaW G w p g1 g2 vgb g
  gl : ∀ k, G k → k < w.heap.size
  hl : ∀ k, H k → k < w.heap.size
  r6 : RowB H w v6 S
  r7 : RowB H w v7 P
  o6 : ∀ k, v6.ownBlock = some k → ¬ G k ∧ ¬ H k
  o7 : ∀ k, v7.ownBlock = some k → ¬ G k ∧ ¬ H k
  d67 : ∀ k, v6.ownBlock = some k → v7.ownBlock ≠ some k
def Lw (w : World) (p g1 g2 : Nat) (vgb : Value) (g : GaD) (v6 v7 : Value) (S P : List BlkD) : Prop := ∃ G H, LwS w p g1 g2 vgb g v6 v7 S P G H
section
variable {w w' : World} {p g1 g2 : Nat} {vgb : Value} {g : GaD} {v6 v7 : Value} {S P : List BlkD}
theorem Lw.ext (h : Lw w p g1 g2 vgb g v6 v7 S P) (he : Ext w w') : Lw w' p g1 g2 vgb g v6 v7 S P := by
  obtain ⟨G, H, a⟩ := h
  exact ⟨G, H, a.ga.ext he, fun k hk => Nat.lt_of_lt_of_le (a.gl k hk) he.size, fun k hk => Nat.lt_of_lt_of_le (a.hl k hk) he.size, a.r6.ext he, a.r7.ext he, a.o6, a.o7, a.d67⟩
theorem Lw.maps (h : Lw w p g1 g2 vgb g v6 v7 S P) : ∀ k, gm g1 g2 k → IsMapB w k := by obtain ⟨G, H, a⟩ := h; exact a.ga.maps
theorem Lw.put {G G' H : Nat → Prop} {g' : GaD} (a : LwS w p g1 g2 vgb g v6 v7 S P G H) (b : GaW G' w' p g1 g2 vgb g') (hN : GaN G G' w w' g1 g2) : Lw w' p g1 g2 vgb g' v6 v7 S P := by
  have hM := a.ga.maps
  have hz := hN.mod.size
  have hG' : ∀ k, G' k → G k ∨ w.heap.size ≤ k := fun k hk => (hN.sub k hk).imp id fun h => h.1
  exact ⟨G', H, b, fun k hk => (hN.sub k hk).elim (fun h => Nat.lt_of_lt_of_le (a.gl k h) hz) fun h => h.2, fun k hk => Nat.lt_of_lt_of_le (a.hl k hk) hz, a.r6.mapmod hN.mod hM, a.r7.mapmod hN.mod hM,
    fun k hk => ⟨fun h => (hG' k h).elim (a.o6 k hk).1 fun h => by have := a.r6.lt hk; omega, (a.o6 k hk).2⟩, fun k hk => ⟨fun h => (hG' k h).elim (a.o7 k hk).1 fun h => by have := a.r7.lt hk; omega, (a.o7 k hk).2⟩, a.d67⟩
theorem Lw.say (h : Lw w p g1 g2 vgb g v6 v7 S P) {vx : Value} {x : List Nat} (hx0 : ∀ c ∈ x, c < 256) (hl0 : x.length ≤ 140737488355328) (hv0 : Byt w vx x) (hfew0 : g.said.length ≤ 1000 ∧ g.kn.length ≤ 1000) :
    Calls Try.prog 12 #[.pointer (some ⟨p, 0, none⟩), vx] w fun e w' => e = .returned (.tuple #[]) ∧ Lw w' p g1 g2 vgb (g.say x) v6 v7 S P ∧ Mod (gm g1 g2) w w' := by
  obtain ⟨G, H, a⟩ := h
  refine (GSay_any a.ga hx0 hl0 hv0 hfew0).mono ?_
  rintro e w' ⟨rfl, G', b, hN⟩
  exact ⟨rfl, Lw.put a b hN, hN.mod⟩
theorem Lw.pass (h : Lw w p g1 g2 vgb g v6 v7 S P) {vx : Value} {x : List Nat} (hx0 : ∀ c ∈ x, c < 256) (hl0 : x.length ≤ 140737488355328) (hv0 : Byt w vx x) (hfew0 : g.said.length ≤ 1000 ∧ g.kn.length ≤ 1000) {g' : GaD} {q : Bool} (hq : g.pass x = (g', q)) :
    Calls Try.prog 10 #[.pointer (some ⟨p, 0, none⟩), vx] w fun e w' => e = .returned (.bool q) ∧ Lw w' p g1 g2 vgb g' v6 v7 S P ∧ Mod (gm g1 g2) w w' := by
  obtain ⟨G, H, a⟩ := h
  refine (GPass_any a.ga hx0 hl0 hv0 hfew0).mono ?_
  rintro e w' ⟨rfl, G', b, hN⟩
  rw [hq] at b ⊢
  exact ⟨rfl, Lw.put a b hN, hN.mod⟩
theorem Lw.bad (h : Lw w p g1 g2 vgb g v6 v7 S P) {n : Int} {q : Bool} (hq : decide (n ∈ g.bad) = q) : Calls Try.prog 11 #[.pointer (some ⟨p, 0, none⟩), .int .i64 n] w fun e w' => e = .returned (.bool q) ∧ Ext w w' := by
  obtain ⟨G, H, a⟩ := h
  refine (GBad_any a.ga n).mono ?_
  rintro e w' ⟨rfl, hx⟩; rw [hq]; exact ⟨rfl, hx⟩
theorem RowB.more {H : Nat → Prop} {v v' u : Value} {l : List BlkD} {b : BlkD} {rows : List (List Value)} (hrow : RowN (fun k => v.ownBlock = some k) w 46 5 v rows) (hl : rows.length = l.length)
    (hR : ∀ (k : Nat) (row : List Value) (d : BlkD), rows[k]? = some row → l[k]? = some d → ∃ u, row = bRw d u ∧ Recs 2 TxR w u d.txs ∧ d.Raw ∧ ∀ j, u.ownBlock = some j → H j) (hm : Mod (fun k => v.ownBlock = some k) w w') (hn : RowN (grow (fun k => v.ownBlock = some k) w w') w' 46 5 v' (rows ++ [bRw b u]))
    (hoff : ∀ k, v.ownBlock = some k → ¬ H k) (hu : Recs 2 TxR w u b.txs) (hraw : b.Raw) (huo : ∀ k, u.ownBlock = some k → v.ownBlock ≠ some k) : RowB (fun k => H k ∨ u.ownBlock = some k) w' v' (l ++ [b]) := by
  refine ⟨rows ++ [bRw b u], ⟨hn.own, hn.each, fun _ h => h⟩, by simp [hl], fun k row d hk hd => ?_⟩
  by_cases hkl : k < rows.length
  · rw [List.getElem?_append_left hkl] at hk
    rw [List.getElem?_append_left (by omega)] at hd
    obtain ⟨u', a1, a2, a3, a4⟩ := hR k row d hk hd
    exact ⟨u', a1, recsT_modB a2 hm fun j hj e => hoff j e (a4 j hj), a3, fun j hj => .inl (a4 j hj)⟩
  · rw [List.getElem?_append_right (by omega)] at hk
    rw [List.getElem?_append_right (by omega)] at hd
    have e : k - rows.length = 0 := by
      have := (List.getElem?_eq_some_iff.1 hk).1; simp at this; omega
    rw [← hl, e] at hd
    rw [e] at hk
    simp at hk hd
    subst hk hd
    exact ⟨u, rfl, recsT_modB hu hm fun j hj e => huo j hj e, hraw, fun j hj => .inr hj⟩
theorem Lw.apart (h : Lw w p g1 g2 vgb g v6 v7 S P) {u : Value} (hn : ∀ k, u.ownBlock = some k → w.heap.size ≤ k) : ∀ k, u.ownBlock = some k → v6.ownBlock ≠ some k ∧ v7.ownBlock ≠ some k := fun k hk => by
  obtain ⟨G, H, a⟩ := h
  have := hn k hk
  exact ⟨fun e => by have := a.r6.lt e; omega, fun e => by have := a.r7.lt e; omega⟩
/-- One more that was said. -/
theorem LwS.app6 {G H : Nat → Prop} {v' u : Value} {b : BlkD} {rows : List (List Value)} (h : LwS w p g1 g2 vgb g v6 v7 S P G H) (hrow : RowN (fun k => v6.ownBlock = some k) w 46 5 v6 rows) (hl : rows.length = S.length)
    (hR : ∀ (k : Nat) (row : List Value) (d : BlkD), rows[k]? = some row → S[k]? = some d → ∃ u, row = bRw d u ∧ Recs 2 TxR w u d.txs ∧ d.Raw ∧ ∀ j, u.ownBlock = some j → H j) (hm : Mod (fun k => v6.ownBlock = some k) w w') (hn : RowN (grow (fun k => v6.ownBlock = some k) w w') w' 46 5 v' (rows ++ [bRw b u]))
    (hu : Recs 2 TxR w u b.txs) (hraw : b.Raw) (hul : ∀ k, u.ownBlock = some k → k < w.heap.size) (hu6 : ∀ k, u.ownBlock = some k → v6.ownBlock ≠ some k) (hu7 : ∀ k, u.ownBlock = some k → v7.ownBlock ≠ some k) : Lw w' p g1 g2 vgb g v' v7 (S ++ [b]) P := by
  have hz := hm.size
  refine ⟨G, fun k => H k ∨ u.ownBlock = some k, h.ga.mod hm fun k hk e => (h.o6 k e).1 hk, fun k hk => Nat.lt_of_lt_of_le (h.gl k hk) hz, fun k hk => hk.elim (fun hk => Nat.lt_of_lt_of_le (h.hl k hk) hz) fun hk => Nat.lt_of_lt_of_le (hul k hk) hz,
    RowB.more hrow hl hR hm hn (fun k hk => (h.o6 k hk).2) hu hraw hu6, (h.r7.mod hm (fun k hk e => h.d67 k e hk) (fun k hk e => (h.o6 k e).2 hk)).mono fun k hk => .inl hk, fun k hk => ?_, fun k hk => ⟨(h.o7 k hk).1, fun e => e.elim (h.o7 k hk).2 fun e => hu7 k e hk⟩, fun k hk e => ?_⟩
  · rcases hn.inF k hk with h1 | h1
    · exact ⟨(h.o6 k h1).1, fun e => e.elim (h.o6 k h1).2 fun e => hu6 k e h1⟩
    · exact ⟨fun e => by have := h.gl k e; omega, fun e => e.elim (fun e => by have := h.hl k e; omega) fun e => by have := hul k e; omega⟩
  · rcases hn.inF k hk with h1 | h1
    · exact h.d67 k h1 e
    · have := h.r7.lt e; omega
/-- One more that passed. -/
theorem LwS.app7 {G H : Nat → Prop} {v' u : Value} {b : BlkD} {rows : List (List Value)} (h : LwS w p g1 g2 vgb g v6 v7 S P G H) (hrow : RowN (fun k => v7.ownBlock = some k) w 46 5 v7 rows) (hl : rows.length = P.length)
    (hR : ∀ (k : Nat) (row : List Value) (d : BlkD), rows[k]? = some row → P[k]? = some d → ∃ u, row = bRw d u ∧ Recs 2 TxR w u d.txs ∧ d.Raw ∧ ∀ j, u.ownBlock = some j → H j) (hm : Mod (fun k => v7.ownBlock = some k) w w') (hn : RowN (grow (fun k => v7.ownBlock = some k) w w') w' 46 5 v' (rows ++ [bRw b u]))
    (hu : Recs 2 TxR w u b.txs) (hraw : b.Raw) (hul : ∀ k, u.ownBlock = some k → k < w.heap.size) (hu6 : ∀ k, u.ownBlock = some k → v6.ownBlock ≠ some k) (hu7 : ∀ k, u.ownBlock = some k → v7.ownBlock ≠ some k) : Lw w' p g1 g2 vgb g v6 v' S (P ++ [b]) := by
  have hz := hm.size
  refine ⟨G, fun k => H k ∨ u.ownBlock = some k, h.ga.mod hm fun k hk e => (h.o7 k e).1 hk, fun k hk => Nat.lt_of_lt_of_le (h.gl k hk) hz, fun k hk => hk.elim (fun hk => Nat.lt_of_lt_of_le (h.hl k hk) hz) fun hk => Nat.lt_of_lt_of_le (hul k hk) hz,
    (h.r6.mod hm (fun k hk e => h.d67 k hk e) (fun k hk e => (h.o7 k e).2 hk)).mono fun k hk => .inl hk, RowB.more hrow hl hR hm hn (fun k hk => (h.o7 k hk).2) hu hraw hu7, fun k hk => ⟨(h.o6 k hk).1, fun e => e.elim (h.o6 k hk).2 fun e => hu6 k e hk⟩, fun k hk => ?_, fun k hk e => ?_⟩
  · rcases hn.inF k hk with h1 | h1
    · exact ⟨(h.o7 k h1).1, fun e => e.elim (h.o7 k h1).2 fun e => hu7 k e h1⟩
    · exact ⟨fun e => by have := h.gl k e; omega, fun e => e.elim (fun e => by have := h.hl k e; omega) fun e => by have := hul k e; omega⟩
  · rcases hn.inF k e with h1 | h1
    · exact h.d67 k hk h1
    · have := h.r6.lt hk; omega
end
end Go.Proofs.Ytgbhbifdfcfamaa
