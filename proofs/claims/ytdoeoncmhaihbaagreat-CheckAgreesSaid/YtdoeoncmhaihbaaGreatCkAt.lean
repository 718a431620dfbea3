/- The statement CheckAgrees: no two that are right decide two. No condition. -/
import Derived.Test.YtdoeoncmhaihbaaGreatCkAg
import Derived.Test.YtdoeoncmhaihbaaGreatPk05
namespace Go.Proofs.YtdoeoncmhaihbaaGreat
set_option maxRecDepth 100000
open Go.RowKit Go.ChangeShapes Go.WideShapes Go.ChangeAt
theorem checkAgrees_lifted (os:Os) (started:os.Started) (H:Type) (enc:TypeId × Value→H) :
  ReturnsInHanded {} Tryz.checked os 3 .any (Rows.checkAgreesSpec.pre6 enc Tryz.prog Tryz.f3 Rows.checkAgreesRow.domain false) (Rows.checkAgreesSpec.post enc Tryz.prog Tryz.f3 false true false false):=by
 refine law_lifted (s:=Rows.checkAgreesSpec) (conds:=Rows.checkAgreesRow.domain) Tryz.func3 (by kernel_rfl) rfl (fun H ds h=>by
   rw [show Tryz.f3.params.size = 3 from rfl] at h
   match ds,h with
   | [d0,d1,d2],_=>rfl) rfl rfl (by decide +kernel) os started H enc
  (ChangeSpec.witness6 (enc:=enc) (C:=Tryz.checked) false ⟨#[], #[.agg #[.int .i64 0, .int .i64 0, .int .i64 0, .slice none 0 0], .slice none 0 0, .slice none 0 0], []⟩ 8 (by kernel_rfl) (by kernel_rfl) (by kernel_rfl) (by kernel_rfl)) ?_
 intro W base args ds p hval hA hsz _
 have hp:Tryz.f3.params.toList = [24,22,25]:=rfl
 rw [hp] at hA hsz
 obtain ⟨v0,v1,v2,d0,d1,d2,p0,p1,p2,rfl,rfl,rfl,h0,h1,h2⟩:=trodAll_three hA
 obtain ⟨row0,g0,rfl,_,⟨u0,rfl,a0⟩,b0,c0⟩:=arg_Cf hsz (j:=0) rfl rfl (hval 0 24 v0 rfl rfl) h0
 obtain ⟨l1,a1,b1,c1⟩:=arg_ints hsz (j:=1) rfl rfl (hval 1 22 v1 rfl rfl) h1
 obtain ⟨l2,a2⟩:=arg_NtEs hsz (j:=2) rfl rfl (hval 2 25 v2 rfl rfl) h2
 exact checkAgrees_law v1 v2 u0 g0 l1 l2 W a0 c0 a1 b1 c1 a2
theorem checkAgrees_holds:Rows.CheckAgreesSaid :=
 OpenClaim.holds_of_wide 3 Tryz.f3 rfl rfl rfl rfl rfl rfl rfl ⟨rfl,rfl,rfl,rfl,rfl⟩ rfl rfl rfl rfl rfl (by kernel_rfl) Tryz.func3 (by kernel_rfl)
  (of_decide_eq_true (by kernel_rfl)) (by unfold Func.isWrapper;first | (rw [if_pos (by decide +kernel)];kernel_rfl) | (rw [if_neg (by decide +kernel)];exact ⟨rfl,rfl⟩))
  (fun os started H enc _=>checkAgrees_lifted os started H enc)
#print axioms checkAgrees_holds
end Go.Proofs.YtdoeoncmhaihbaaGreat
