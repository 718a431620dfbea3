/- The disk as the document has it, as plain mathematics: bytes, how many are synced, how many it can have. -/
import Derived.Test.YtfhecifgpjbeiaaObjStep
namespace Go.Proofs.Ytfhecifgpjbeiaa

structure DSt where
  l : List Nat
  s : Nat
  lim : Nat

/-- n, or the bound that it is beyond. -/
def bet (n : Int) (m : Nat) : Nat := min n.toNat m
theorem bet_le (n : Int) (m : Nat) : bet n m ≤ m := Nat.min_le_right _ _
theorem bet_int (n : Int) (m : Nat) : ((bet n m : Nat) : Int) = min (max n 0) (m : Int) := by unfold bet; omega

namespace DSt
def room (D : DSt) : Nat := D.lim - D.l.length
def app (D : DSt) (b : List Nat) : DSt := if b.length ≤ D.room then { D with l := D.l ++ b } else D
def err (D : DSt) (b : List Nat) : Nat := if b.length ≤ D.room then 0 else 41
def sync (D : DSt) : DSt := { D with s := D.l.length }
def setLim (D : DSt) (n : Int) : DSt := { D with lim := bet n 65536 }
def crash (D : DSt) (n : Int) : DSt := { D with l := D.l.take (D.s + bet n (D.l.length - D.s)), s := D.s + bet n (D.l.length - D.s) }
def cut (D : DSt) (n : Int) : DSt := { D with l := D.l.take (bet n D.l.length), s := min D.s (bet n D.l.length) }
def new (n : Int) : DSt := ⟨[], 0, bet n 65536⟩
/-- What a disk always is. -/
structure Ok (D : DSt) : Prop where
  s : D.s ≤ D.l.length
  lim : D.lim ≤ 65536
  len : D.l.length ≤ 65536
theorem Ok.new (n : Int) : (new n).Ok := ⟨by simp [DSt.new], bet_le _ _, by simp [DSt.new]⟩
theorem Ok.app {D : DSt} (h : D.Ok) (b : List Nat) : (D.app b).Ok := by
  obtain ⟨h1, h2, h3⟩ := h
  unfold DSt.app
  split
  · rename_i hb
    unfold room at hb
    exact ⟨by simp; omega, h2, by simp; omega⟩
  · exact ⟨h1, h2, h3⟩
theorem Ok.sync {D : DSt} (h : D.Ok) : D.sync.Ok := ⟨Nat.le_refl _, h.lim, h.len⟩
theorem Ok.setLim {D : DSt} (h : D.Ok) (n : Int) : (D.setLim n).Ok := ⟨h.s, bet_le _ _, h.len⟩
theorem Ok.crash {D : DSt} (h : D.Ok) (n : Int) : (D.crash n).Ok := by
  obtain ⟨h1, h2, h3⟩ := h
  have hb := bet_le n (D.l.length - D.s)
  exact ⟨by simp [DSt.crash]; omega, h2, by simp [DSt.crash]; omega⟩
theorem Ok.cut {D : DSt} (h : D.Ok) (n : Int) : (D.cut n).Ok := by
  obtain ⟨h1, h2, h3⟩ := h
  have hb := bet_le n D.l.length
  exact ⟨by simp [DSt.cut]; omega, h2, by simp [DSt.cut]; omega⟩
end DSt
end Go.Proofs.Ytfhecifgpjbeiaa
