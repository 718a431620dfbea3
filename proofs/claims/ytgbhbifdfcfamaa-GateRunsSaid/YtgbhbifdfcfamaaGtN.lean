/- What a gate is, plainly: who is bad, what was said, which blocks are known; Say, Pass; what comes of it. -/
import Derived.Test.YtgbhbifdfcfamaaMsgM
namespace Go.Proofs.Ytgbhbifdfcfamaa
set_option maxRecDepth 100000

structure GaD where
  bad : List Int
  said : List (List Nat)
  kn : List BlkD
namespace GaD
def find (g : GaD) (n : Int) : Option BlkD := g.kn.find? fun b => decide (b.name = n)
def know (g : GaD) (b : BlkD) : GaD := ⟨g.bad, g.said, g.kn ++ [b]⟩
def learn (g : GaD) (b : BlkD) : GaD := match g.find b.name with
  | some _ => g
  | none => g.know b
def tell (g : GaD) (x : List Nat) : GaD := ⟨g.bad, g.said ++ [x], g.kn⟩
def say (g : GaD) (x : List Nat) : GaD := match rdMsg x with
  | none => g.tell x
  | some m => if m.kd = 1 then (g.tell x).learn m.bk else g.tell x
def passB (g : GaD) (b : BlkD) : GaD × Bool := match g.find b.name with
  | some c => (g, decide (c = b))
  | none => if b.miner ∈ g.bad then (g.know b, true) else (g, false)
def pass (g : GaD) (x : List Nat) : GaD × Bool := match rdMsg x with
  | none => (g, false)
  | some m => if x ∈ g.said then (g, true) else if m.fm ∈ g.bad then (if m.kd = 1 then g.passB m.bk else (g, true)) else (g, false)
structure Ok (g : GaD) : Prop where
  right : ∀ b ∈ g.kn, b.Right
  nd : (g.kn.map BlkD.name).Nodup
variable {g : GaD} {x : List Nat} {b c : BlkD} {n : Int} {m : MsgD}
theorem find_some (h : g.find n = some b) : b ∈ g.kn ∧ b.name = n := ⟨List.mem_of_find?_eq_some h, by simpa using List.find?_some h⟩
theorem find_none (h : g.find n = none) : ∀ b ∈ g.kn, b.name ≠ n := fun b hb => by simpa using List.find?_eq_none.1 h b hb
theorem find_know (h : g.find b.name = none) : (g.know b).find b.name = some b := by
  unfold find know
  rw [List.find?_append, show List.find? _ g.kn = none from h]; simp
theorem find_stay (h : g.find n = some c) : (g.know b).find n = some c := by
  unfold find know
  rw [List.find?_append, show List.find? _ g.kn = some c from h]; rfl
theorem Ok.know (h : g.Ok) (hb : b.Right) (hf : g.find b.name = none) : (g.know b).Ok := by
  refine ⟨fun c hc => ?_, ?_⟩
  · rcases List.mem_append.1 hc with h1 | h1
    · exact h.right c h1
    · rw [List.mem_singleton.1 h1]; exact hb
  · show ((g.kn ++ [b]).map BlkD.name).Nodup
    rw [List.map_append, List.nodup_append]
    refine ⟨h.nd, by simp, fun y hy z hz => ?_⟩
    obtain ⟨c, hc, rfl⟩ := List.mem_map.1 hy
    simp at hz; subst hz
    exact find_none hf c hc
theorem learn_yes (h : (g.find b.name).isSome = true) : g.learn b = g := by
  unfold learn
  cases hf : g.find b.name with
  | none => rw [hf] at h; cases h
  | some c => rfl
theorem learn_no (h : g.find b.name = none) : g.learn b = g.know b := by unfold learn; rw [h]
theorem Ok.learn (h : g.Ok) (hb : b.Right) : (g.learn b).Ok := by
  cases hf : g.find b.name with
  | none => rw [learn_no hf]; exact h.know hb hf
  | some c => rw [learn_yes (by rw [hf]; rfl)]; exact h
theorem Ok.tell (h : g.Ok) : (g.tell x).Ok := ⟨h.right, h.nd⟩
theorem say_none (h : rdMsg x = none) : g.say x = g.tell x := by unfold say; rw [h]
theorem say_blk (h : rdMsg x = some m) (hk : m.kd = 1) : g.say x = (g.tell x).learn m.bk := by unfold say; rw [h]; exact if_pos hk
theorem say_oth (h : rdMsg x = some m) (hk : m.kd ≠ 1) : g.say x = g.tell x := by unfold say; rw [h]; exact if_neg hk
theorem rd_right (hx : ∀ c ∈ x, c < 256) (h : rdMsg x = some m) : m.Right := ((rdMsg_iff hx m).1 h).1
theorem Ok.say (h : g.Ok) (hx : ∀ c ∈ x, c < 256) : (g.say x).Ok := by
  cases hr : rdMsg x with
  | none => rw [say_none hr]; exact h.tell
  | some m =>
    by_cases hk : m.kd = 1
    · rw [say_blk hr hk]; exact h.tell.learn ((rd_right hx hr).bkOk hk)
    · rw [say_oth hr hk]; exact h.tell
theorem passB_some (h : g.find b.name = some c) : g.passB b = (g, decide (c = b)) := by unfold passB; rw [h]
theorem passB_none (h : g.find b.name = none) : g.passB b = if b.miner ∈ g.bad then (g.know b, true) else (g, false) := by unfold passB; rw [h]
theorem pass_none (h : rdMsg x = none) : g.pass x = (g, false) := by unfold pass; rw [h]
theorem pass_some (h : rdMsg x = some m) : g.pass x = if x ∈ g.said then (g, true) else if m.fm ∈ g.bad then (if m.kd = 1 then g.passB m.bk else (g, true)) else (g, false) := by unfold pass; rw [h]
theorem Ok.passB (h : g.Ok) (hb : b.Right) : (g.passB b).1.Ok := by
  cases hf : g.find b.name with
  | some c => rw [passB_some hf]; exact h
  | none =>
    rw [passB_none hf]
    split
    · exact h.know hb hf
    · exact h
theorem Ok.pass (h : g.Ok) (hx : ∀ c ∈ x, c < 256) : (g.pass x).1.Ok := by
  cases hr : rdMsg x with
  | none => rw [pass_none hr]; exact h
  | some m =>
    rw [pass_some hr]
    split
    · exact h
    split
    · split
      · next hk => exact h.passB ((rd_right hx hr).bkOk hk)
      · exact h
    · exact h
theorem learn_bad : (g.learn b).bad = g.bad ∧ (g.learn b).said = g.said ∧ (g.learn b).kn.length ≤ g.kn.length + 1 := by
  unfold learn
  split
  · exact ⟨rfl, rfl, by omega⟩
  · exact ⟨rfl, rfl, by simp [know]⟩
theorem say_bad : (g.say x).bad = g.bad ∧ (g.say x).said = g.said ++ [x] ∧ (g.say x).kn.length ≤ g.kn.length + 1 := by
  cases hr : rdMsg x with
  | none => rw [say_none hr]; exact ⟨rfl, rfl, by simp [tell]⟩
  | some m =>
    by_cases hk : m.kd = 1
    · rw [say_blk hr hk]; exact learn_bad (g := g.tell x)
    · rw [say_oth hr hk]; exact ⟨rfl, rfl, by simp [tell]⟩
theorem passB_bad : (g.passB b).1.bad = g.bad ∧ (g.passB b).1.said = g.said ∧ (g.passB b).1.kn.length ≤ g.kn.length + 1 := by
  unfold passB
  split
  · exact ⟨rfl, rfl, by simp⟩
  · split
    · exact ⟨rfl, rfl, by simp [know]⟩
    · exact ⟨rfl, rfl, by simp⟩
theorem pass_bad : (g.pass x).1.bad = g.bad ∧ (g.pass x).1.said = g.said ∧ (g.pass x).1.kn.length ≤ g.kn.length + 1 := by
  cases hr : rdMsg x with
  | none => rw [pass_none hr]; exact ⟨rfl, rfl, by simp⟩
  | some m =>
    rw [pass_some hr]
    split
    · exact ⟨rfl, rfl, by simp⟩
    split
    · split
      · exact passB_bad
      · exact ⟨rfl, rfl, by simp⟩
    · exact ⟨rfl, rfl, by simp⟩
/-- What was said passes, if it can be read; nothing turns. -/
theorem pass_said (h : x ∈ g.said) : g.pass x = (g, (rdMsg x).isSome) := by
  cases hr : rdMsg x with
  | none => exact pass_none hr
  | some m => rw [pass_some hr, if_pos h]; rfl
/-- The bytes of right blocks tell them. -/
theorem bytes_one (hb : b.Right) (hc : c.Right) : b.bytes = c.bytes ↔ b = c := ⟨fun h => IsBlk.one (b := b.bytes) ⟨hb, rfl⟩ ⟨hc, h⟩, fun h => by rw [h]⟩
end GaD
end Go.Proofs.Ytgbhbifdfcfamaa
