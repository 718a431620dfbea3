/- The chapter's example. -/
import Derived.Test.YtdoeoncmhaihbaaCHG
import Derived.Test.YtdoeoncmhaihbaaSame
namespace Go.Proofs.Ytdoeoncmhaihbaa
set_option maxRecDepth 100000
open Go.RowKit

/-- What is a chain's. -/
def CQ (H : Nat → Prop) (q : Nat) : Nat → Prop := fun k => H k ∨ k = q
section
variable {W w w' : World} {H H' : Nat → Prop} {q : Nat}
theorem Out.ch (h : Out W (CQ H q) w) (u : Upd H H' w w') : Out W (CQ H' q) w' :=
  h.upd ⟨u.mod.mono fun _ _ e => .inl e, fun k hk => hk.elim (fun e => (u.sub k e).imp_left .inl) fun e => .inl (.inr e)⟩
theorem Out.nx (h : Out W (CQ H q) w) (hm : Mod (fun k => k = q) w w') : Out W (CQ H q) w' := h.other hm fun k e => h.new k (.inr e)
end
def t5 : TxD := ⟨5, 0⟩
def t6 : TxD := ⟨6, 0⟩
def cOne : BlkD := ⟨1, 0, 0, 0, [t5]⟩
def cTwo : BlkD := ⟨2, 0, 0, 65536, [t6]⟩
theorem tk1T : tkT [1, 1] 2 ⟨[], []⟩ cOne = ⟨[cOne], []⟩ := by kernel_rfl
theorem tk1E : tkE [1, 1] 2 ⟨[], []⟩ cOne = 0 := by kernel_rfl
theorem mk2 : mkD [1, 1] 2 0 [cOne] [t5, t6] = cTwo := by kernel_rfl
theorem mk2k : mkOk [1, 1] 2 0 [cOne] [t5, t6] = true := by kernel_rfl
theorem tk2T : tkT [1, 1] 2 ⟨[cOne], []⟩ cTwo = ⟨[cOne, cTwo], []⟩ := by kernel_rfl
theorem tk2E : tkE [1, 1] 2 ⟨[cOne], []⟩ cTwo = 0 := by kernel_rfl
theorem tip12 : TrS.tip [cOne, cTwo] = 131072 := by kernel_rfl
theorem bk12 : backN (TrS.path [cOne, cTwo] (TrS.tip [cOne, cTwo])) 1 = 65536 := by kernel_rfl
theorem raw1 : cOne.Raw := ⟨by simp [cOne], by simp [cOne], by simp [cOne], by simp [cOne], by simp [cOne, t5]; exact ⟨by simp, by simp⟩⟩
theorem raw2 : cTwo.Raw := ⟨by simp [cTwo], by simp [cTwo], by simp [cTwo], by simp [cTwo], by simp [cTwo, t6]; exact ⟨by simp, by simp⟩⟩
theorem rawT5 : t5.Raw := ⟨by simp [t5], by simp [t5]⟩
theorem rawT6 : t6.Raw := ⟨by simp [t6], by simp [t6]⟩
theorem max02 : max (0 : Int) 2 = 2 := rfl

end Go.Proofs.Ytdoeoncmhaihbaa
