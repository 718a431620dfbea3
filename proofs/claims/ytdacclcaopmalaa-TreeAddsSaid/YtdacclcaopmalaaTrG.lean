/- What waited for what is known by now: made known, one after the other. -/
import Derived.Test.YtdacclcaopmalaaTrH
namespace Go.Proofs.Ytdacclcaopmalaa
set_option maxRecDepth 100000
open Go.RowKit

def NextT (D : List BlkD × List BlkD × List Int) (K V : List BlkD) (o : List Int) : Prop := ∃ f, V.length ≤ f ∧ D = TrS.drain f K V o
def PendT (D : List BlkD × List BlkD × List Int) (K r : List BlkD) (o : List Int) (x : BlkD) : Prop := ∃ f, r.length ≤ f ∧ D = if K.length < 400 then TrS.drain f (K ++ [x]) r (o ++ [x.name]) else TrS.drain f K r o
section
variable {D : List BlkD × List BlkD × List Int} {K V r : List BlkD} {o : List Int} {x : BlkD}
theorem NextT.none (h : NextT D K V o) (hp : TrS.pick K V = none) : D = (K, V, o) := by
  obtain ⟨f, _, rfl⟩ := h
  cases f with
  | zero => rfl
  | succ f => rw [TrS.drain, hp]
theorem pick_len (hp : TrS.pick K V = some (x, r)) : V.length = r.length + 1 := by
  rw [(TrS.pick_some hp).2.length_eq]; rfl
theorem NextT.some (h : NextT D K V o) (hp : TrS.pick K V = some (x, r)) : PendT D K r o x := by
  obtain ⟨f, hf, rfl⟩ := h
  have := pick_len hp
  cases f with
  | zero => omega
  | succ f => exact ⟨f, by omega, by rw [TrS.drain, hp]⟩
theorem PendT.yes (h : PendT D K r o x) (hk : K.length < 400) : NextT D (K ++ [x]) r (o ++ [x.name]) := by
  obtain ⟨f, hf, rfl⟩ := h
  exact ⟨f, hf, if_pos hk⟩
theorem PendT.no (h : PendT D K r o x) (hk : ¬ K.length < 400) : NextT D K r o := by
  obtain ⟨f, hf, rfl⟩ := h
  exact ⟨f, hf, if_neg hk⟩
theorem Fit8.pick (h : Fit8 K V) (hp : TrS.pick K V = some (x, r)) : Fit8 K (x :: r) := by
  have hperm := (TrS.pick_some hp).2
  refine ⟨fun b hb => h.right b ?_, ?_, h.stood, by rw [← hperm.length_eq]; exact h.few, h.room⟩
  · rcases List.mem_append.1 hb with hb | hb
    · exact List.mem_append_left _ hb
    · exact List.mem_append_right _ (hperm.mem_iff.2 hb)
  · exact (((hperm.append_left K).map BlkD.name).nodup_iff).1 h.nodup
theorem Fit8.learn (h : Fit8 K (x :: r)) (hr : TrS.ready K x = true) (hk : K.length < 400) : Fit8 (K ++ [x]) r := by
  have e : K ++ x :: r = (K ++ [x]) ++ r := by simp
  refine ⟨fun b hb => h.right b (by rw [e]; exact hb), by rw [← e]; exact h.nodup, h.stood.snoc hr, Nat.le_trans (by simp) h.few, by simp; omega⟩
theorem Fit8.tl (h : Fit8 K (x :: r)) : Fit8 K r := h.sub (List.sublist_cons_self x r)
end
def qlen (w : World) (p : Nat) : Nat := match w.cell? ⟨p, 1, none⟩ with | some (.slice _ n _) => n | _ => 0
def okn : Value → Nat | .bool true => 1 | _ => 0
theorem TrC.qlen {X : Nat → Prop} {w : World} {p g : Nat} {v : Value} {K V : List BlkD} (h : TrC X w p g v K V) : qlen w p = V.length := by
  obtain ⟨rows, ⟨A, c, rfl, _⟩, hl, _⟩ := h.recs
  unfold Go.Proofs.Ytdacclcaopmalaa.qlen
  rw [h.obj.cell (i := 1) rfl]
  exact hl
/-- What may have turned. -/
def F49 (p g : Nat) (v : Value) (k : Nat) : Prop := k = p ∨ k = g ∨ v.ownBlock = some k
/-- How far it is, between two rounds. -/
def At49 (X : Nat → Prop) (D : List BlkD × List BlkD × List Int) (K V : List BlkD) (o : List Int) (cs : List Value) (w : World) (ok : Bool) : Prop :=
  (ok = false ∧ D = (K, V, o)) ∨ (ok = true ∧ ∃ x u, cs = bRow x u ∧ TxX X w u x ∧ PendT D K V o x ∧ Fit8 K (x :: V) ∧ TrS.ready K x = true)
end Go.Proofs.Ytdacclcaopmalaa
