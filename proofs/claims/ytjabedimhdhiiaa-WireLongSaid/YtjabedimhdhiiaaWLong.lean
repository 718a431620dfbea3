/- The statement WireLong: a greater number has no fewer bytes, ten at most; a text has as many as it is long, and one or two more. No condition. -/
import Derived.Test.YtjabedimhdhiiaaAlive
import Derived.Test.YtjabedimhdhiiaaLift
namespace Go.Proofs.Ytjabedimhdhiiaa
open Go.RowKit Go.ChangeShapes Go.WideShapes Go.ChangeAt

theorem numL_mono : ∀ (n m : Nat), m ≤ n → (numL m).length ≤ (numL n).length := by
  intro n
  induction n using Nat.strongRecOn with
  | _ n ih =>
    intro m h
    by_cases hm : m < 128
    · rw [numL_small hm]; have := numL_pos n; simp; omega
    · rw [numL_big (n := m) (by omega), numL_big (n := n) (by omega)]
      have := ih (n / 128) (by omega) (m / 128) (by omega)
      simpa using this


theorem w_minmax {P : Program} {ops : Array Oper} {rest : List Oper} {o : Oper} {a : Act} {Q : Exit → Act → World → Prop} {w : World} {u : Value} {tys : Array TypeId} (x y : Operand) (hgd : o.guard = none)
    (ho : (o.op = .call { callee := .builtin .min, args := #[x, y], argTypes := tys } ∧ (Builtin.min_ tys o.type #[a.eval x, a.eval y]).run P w = .ok u w) ∨ (o.op = .call { callee := .builtin .max, args := #[x, y], argTypes := tys } ∧ (Builtin.max_ tys o.type #[a.eval x, a.eval y]).run P w = .ok u w))
    (k : wpList P ops Q rest (a.put o.dst u) w) : wpList P ops Q (o :: rest) a w := by
  refine wpList_runs hgd ?_ k
  unfold Runs execOp
  rcases ho with ⟨ho, hr⟩ | ⟨ho, hr⟩ <;> simp [ho, resolve, invoke, builtin, hr]

set_option maxRecDepth 100000 in
set_option maxHeartbeats 800000 in
/-- The call, with the lesser and the greater number told. -/
theorem long_core (a b lo hi : Nat) (v : Value) (l : List Nat) (W : World) (hlo64 : W64 lo) (hhi64 : W64 hi) (hle : lo ≤ hi) (h : Byt W v l) (hlen : l.length ≤ 140737488355328)
    (hmin : ∀ w : World, (Builtin.min_ #[22, 22] 22 #[.int .u64 a, .int .u64 b]).run Try.prog w = .ok (.int .u64 lo) w) (hmax : ∀ w : World, (Builtin.max_ #[22, 22] 22 #[.int .u64 a, .int .u64 b]).run Try.prog w = .ok (.int .u64 hi) w) :
    Calls Try.prog 9 #[.int .u64 a, .int .u64 b, v] W fun e w' => e = .returned (.bool true) ∧ Ext W w' := by
  refine calls_keep ?_
  have hm := numL_mono hi lo hle
  have hp := numL_pos lo
  have h10 := numL_len10 hhi64
  have t1 : (decide (((numL lo).length : Int) < 1)) = false := by simp; omega
  have t2 : (decide ((numL hi).length < (numL lo).length)) = false := by simp; omega
  have t3 : (decide ((10 : Int) < ((numL hi).length : Int))) = false := by simp; omega
  by_cases hb : 4096 < l.length
  · have He := hide_ (show txErr l = 11 from by rw [txErr, if_pos hb])
    have Hz := hide_ (show txL l = [] from by rw [txL, if_pos hb])
    have tb : (decide ((4096 : Int) < (l.length : Int))) = true := by simp; omega
    clear hb hm hp h10
    go_enter Try.func9, Try.ntmps9
    go_wp2_with (first
      | (go_at_call 12; refine (alive_any _).mono ?_; rintro e w1 ⟨rfl, hx1⟩)
      | (refine w_minmax _ _ rfl (.inl ⟨rfl, hmin _⟩) ?_)
      | (refine w_minmax _ _ rfl (.inr ⟨rfl, hmax _⟩) ?_)
      | (go_at_call 14; refine (Num_any lo _ hlo64).mono ?_; rintro e w2 ⟨v2, rfl, ho2, hx2⟩)
      | (go_at_call 14; refine (Num_any hi _ hhi64).mono ?_; rintro e w3 ⟨v3, rfl, ho3, hx3⟩; have H2 := ho2.byt.ext hx3; have H3 := ho3.byt; have H := h.ext ((hx1.trans hx2).trans hx3))
      | (go_at_call 21; refine (Text_any v l _ H).mono ?_; rintro e w4 ⟨v4, rfl, ho4, hx4⟩; rw [Hz.out] at ho4; have H4 := ho4.byt; have H5 := H.ext hx4; clear ho4 ho2 ho3; rw [He.out])
      | (refine b_len _ rfl rfl rfl (by assumption) ?_)
      | (refine w_yes _ _ _ rfl rfl rfl ?_; refine b_len _ rfl rfl rfl (by assumption) ?_))
    go_ret
    exact Keep.intro ⟨rfl, ((hx1.trans hx2).trans hx3).trans hx4⟩
  · have He := hide_ (show txErr l = 0 from by rw [txErr, if_neg hb])
    obtain ⟨z, hz, hzl⟩ : ∃ z, txL l = z ∧ z.length = (numL l.length).length + l.length := ⟨_, rfl, by rw [txL, if_neg hb]; simp⟩
    have Hz := hide_ hz
    clear hz
    by_cases hs : l.length ≤ 127
    · have tz : ((z.length : Int) == (l.length : Int) + 1) = true := by
        rw [numL_small (by omega)] at hzl; simp at hzl ⊢; omega
      clear hb hm hp h10 hzl hs
      go_enter Try.func9, Try.ntmps9
      go_wp2_with (first
        | (go_at_call 12; refine (alive_any _).mono ?_; rintro e w1 ⟨rfl, hx1⟩)
        | (refine w_minmax _ _ rfl (.inl ⟨rfl, hmin _⟩) ?_)
        | (refine w_minmax _ _ rfl (.inr ⟨rfl, hmax _⟩) ?_)
        | (go_at_call 14; refine (Num_any lo _ hlo64).mono ?_; rintro e w2 ⟨v2, rfl, ho2, hx2⟩)
        | (go_at_call 14; refine (Num_any hi _ hhi64).mono ?_; rintro e w3 ⟨v3, rfl, ho3, hx3⟩; have H2 := ho2.byt.ext hx3; have H3 := ho3.byt; have H := h.ext ((hx1.trans hx2).trans hx3))
        | (go_at_call 21; refine (Text_any v l _ H).mono ?_; rintro e w4 ⟨v4, rfl, ho4, hx4⟩; rw [Hz.out] at ho4; have H4 := ho4.byt; have H5 := H.ext hx4; clear ho4 ho2 ho3; rw [He.out])
        | (refine b_len _ rfl rfl rfl (by assumption) ?_)
        | (refine w_yes _ _ _ rfl rfl rfl ?_; refine b_len _ rfl rfl rfl (by assumption) ?_))
      go_ret
      exact Keep.intro ⟨rfl, ((hx1.trans hx2).trans hx3).trans hx4⟩
    · have hn : (numL l.length).length = 2 := by rw [numL_big (by omega), numL_small (by omega)]; rfl
      have tz : ((z.length : Int) == (l.length : Int) + 1) = false := by rw [beq_eq_false_iff_ne]; omega
      have tz2 : ((z.length : Int) == (l.length : Int) + 2) = true := by rw [beq_iff_eq]; omega
      have ts : (decide ((127 : Int) < (l.length : Int))) = true := by simp; omega
      clear hb hm hp h10 hzl hs hn
      go_enter Try.func9, Try.ntmps9
      go_wp2_with (first
        | (go_at_call 12; refine (alive_any _).mono ?_; rintro e w1 ⟨rfl, hx1⟩)
        | (refine w_minmax _ _ rfl (.inl ⟨rfl, hmin _⟩) ?_)
        | (refine w_minmax _ _ rfl (.inr ⟨rfl, hmax _⟩) ?_)
        | (go_at_call 14; refine (Num_any lo _ hlo64).mono ?_; rintro e w2 ⟨v2, rfl, ho2, hx2⟩)
        | (go_at_call 14; refine (Num_any hi _ hhi64).mono ?_; rintro e w3 ⟨v3, rfl, ho3, hx3⟩; have H2 := ho2.byt.ext hx3; have H3 := ho3.byt; have H := h.ext ((hx1.trans hx2).trans hx3))
        | (go_at_call 21; refine (Text_any v l _ H).mono ?_; rintro e w4 ⟨v4, rfl, ho4, hx4⟩; rw [Hz.out] at ho4; have H4 := ho4.byt; have H5 := H.ext hx4; clear ho4 ho2 ho3; rw [He.out])
        | (refine b_len _ rfl rfl rfl (by assumption) ?_)
        | (refine w_yes _ _ _ rfl rfl rfl ?_; refine b_len _ rfl rfl rfl (by assumption) ?_))
      go_ret
      exact Keep.intro ⟨rfl, ((hx1.trans hx2).trans hx3).trans hx4⟩

theorem long_law (a b : Nat) (v : Value) (l : List Nat) (W : World) (ha : W64 a) (hb : W64 b) (h : Byt W v l) (hlen : l.length ≤ 140737488355328) :
    Calls Try.prog 9 #[.int .u64 a, .int .u64 b, v] W fun e w' => e = .returned (.bool true) ∧ Ext W w' := by
  by_cases hab : a ≤ b
  · refine long_core a b a b v l W ha hb hab h hlen (fun w => ?_) (fun w => ?_)
    · rw [run_min_int2]; congr 2; split <;> omega
    · rw [run_max_int2]; congr 2; split <;> omega
  · refine long_core a b b a v l W hb ha (by omega) h hlen (fun w => ?_) (fun w => ?_)
    · rw [run_min_int2]; congr 2; split <;> omega
    · rw [run_max_int2]; congr 2; split <;> omega

set_option maxRecDepth 100000 in
theorem long_lifted (os : Os) (started : os.Started) (H : Type) (enc : TypeId × Value → H) :
    ReturnsInHanded {} Try.checked os 9 .any (Rows.wireLongSpec.pre6 enc Try.prog Try.f9 Rows.wireLongRow.domain false) (Rows.wireLongSpec.post enc Try.prog Try.f9 false true false false) := by
  refine law_lifted (s := Rows.wireLongSpec) (conds := Rows.wireLongRow.domain) Try.func9 (by kernel_rfl) rfl (fun H ds h => by
      rw [show Try.f9.params.size = 3 from rfl] at h
      match ds, h with
      | [d0, d1, d2], _ => rfl) rfl rfl (by decide +kernel) os started H enc
    (ChangeSpec.witness6 (enc := enc) (C := Try.checked) false ⟨#[], #[.int .u64 0, .int .u64 0, .slice none 0 0], []⟩ 8 (by kernel_rfl) (by kernel_rfl) (by kernel_rfl) (by kernel_rfl)) ?_
  intro W base args ds p hval hA hsz _
  have hp : Try.f9.params.toList = [22, 22, 23] := rfl
  rw [hp] at hA hsz
  obtain ⟨v0, v1, v2, d0, d1, d2, p0, p1, p2, rfl, rfl, rfl, h0, h1, h2⟩ := trodAll_three hA
  obtain ⟨a0, rfl, b0⟩ := arg_u64 (hval 0 22 v0 rfl rfl) h0
  obtain ⟨a1, rfl, b1⟩ := arg_u64 (hval 1 22 v1 rfl rfl) h1
  obtain ⟨l2, a2, b2, c2⟩ := arg_bytes hsz (j := 2) rfl rfl (hval 2 23 v2 rfl rfl) h2
  exact long_law a0 a1 v2 l2 W b0 b1 a2 (by omega)

theorem long_holds : Rows.WireLongSaid :=
  OpenClaim.holds_of_wide 9 Try.f9 rfl rfl rfl rfl rfl rfl rfl ⟨rfl, rfl, rfl, rfl, rfl⟩ rfl rfl rfl rfl rfl (by kernel_rfl) Try.func9 (by kernel_rfl)
    (of_decide_eq_true (by kernel_rfl)) (by unfold Func.isWrapper; first | (rw [if_pos (by decide +kernel)]; kernel_rfl) | (rw [if_neg (by decide +kernel)]; exact ⟨rfl, rfl⟩))
    (fun os started H enc _ => long_lifted os started H enc)
#print axioms long_holds

end Go.Proofs.Ytjabedimhdhiiaa
