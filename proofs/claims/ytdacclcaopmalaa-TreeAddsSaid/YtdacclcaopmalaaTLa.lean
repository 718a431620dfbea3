/- The chapter's example. -/
import Derived.Test.YtdacclcaopmalaaTrAd
import Derived.Test.YtdacclcaopmalaaSame
namespace Go.Proofs.Ytdacclcaopmalaa
set_option maxRecDepth 100000
open Go.RowKit

def bOne : BlkD := ⟨2, 0, 0, 65536, []⟩
def bTwo : BlkD := ⟨1, 0, 0, 0, []⟩
theorem addA : TrS.add ⟨[], []⟩ bOne = (⟨[], [bOne]⟩, [], true) := by kernel_rfl
theorem addB : TrS.add ⟨[], [bOne]⟩ bTwo = (⟨[bTwo, bOne], []⟩, [65536, 131072], true) := by kernel_rfl
theorem tipAB : TrS.tip [bTwo, bOne] = 131072 := by kernel_rfl
theorem highAB : TrS.height [bTwo, bOne] 131072 = 2 := by kernel_rfl
theorem rawA : bOne.Raw := ⟨by simp [bOne], by simp [bOne], by simp [bOne], by simp [bOne], by simp [bOne]⟩
theorem rawB : bTwo.Raw := ⟨by simp [bTwo], by simp [bTwo], by simp [bTwo], by simp [bTwo], by simp [bTwo]⟩
theorem nilT (w : World) : Recs 2 TxR w (.slice none 0 0) [] := (OwnT.nil 0 w).recs
theorem Ints.none {w : World} (w' : World) {v : Value} (h : Ints w v []) : Ints w' v [] := Sl.empty w' h

set_option maxRecDepth 100000 in
set_option maxHeartbeats 1600000 in
theorem treeAlive_any (W : World) : Calls Try.prog 22 #[] W fun e w' => e = .returned (.bool true) ∧ Ext W w' := by
  refine calls_keep ?_
  have tok1 : True := trivial
  have tok2 : True := trivial
  go_enter Try.func22, Try.ntmps22
  go_wp2_with ((first
    | (go_at_call 23; refine (New_any (w := W)).mono ?_; rintro e w1 ⟨p, G, rfl, hT, hX, hG⟩; have hO : Out W G w1 := ⟨hX, hG⟩; clear hX hG)
    | (go_at_call 25; have _t := tok1; refine (Add_any (b := bOne) (u := .slice none 0 0) hT (by simp) (nilT _) rawA).mono ?_; rintro e w2 ⟨v1, G2, rfl, o1, hT2, hU⟩; rw [addA] at o1 hT2; rw [addA]; replace o1 := o1.ints; replace hT := hT2; replace hO := hO.upd hU; clear hT2 hU tok1)
    | (go_at_call 25; have _t := tok2; refine (Add_any (b := bTwo) (u := .slice none 0 0) hT (by simp) (nilT _) rawB).mono ?_; rintro e w2 ⟨v2, G2, rfl, o2, hT2, hU⟩; rw [addB] at o2 hT2; rw [addB]; replace o2 := o2.ints; replace o1 := o1.none w2; replace hT := hT2; replace hO := hO.upd hU; clear hT2 hU tok2)
    | (go_at_call 27; refine (SameInts_any v2 v3 [65536, 131072] _ o2 o3).mono ?_; rintro e w5 ⟨rfl, hx⟩; replace hT := hT.ext hx; replace hO := hO.extend hx; clear hx)
    | (go_at_call 32; refine (Tip_any hT).mono ?_; rintro e w5 ⟨rfl, hx⟩; rw [tipAB]; replace hT := hT.ext hx; replace hO := hO.extend hx; clear hx)
    | (go_at_call 48; refine (Height_any (n := 131072) hT ⟨by omega, by omega⟩).mono ?_; rintro e w5 ⟨rfl, hx⟩; rw [highAB]; replace hT := hT.ext hx; replace hO := hO.extend hx; clear hx)
    | ((with_reducible refine at_sbuild ?_); have _t := tok1; refine w_sbuild Try.stBlk [.int .i64 2, .int .i64 0, .int .i64 0, .int .i64 65536, .slice none 0 0] rfl rfl rfl (by intro p hp; simp at hp; rcases hp with rfl | rfl <;> exact ⟨by decide, rfl⟩) ?_)
    | ((with_reducible refine at_sbuild ?_); refine w_sbuild Try.stBlk [.int .i64 1, .int .i64 0, .int .i64 0, .int .i64 0, .slice none 0 0] rfl rfl rfl (by intro p hp; simp at hp; rcases hp with rfl; exact ⟨by decide, rfl⟩) ?_)
    | ((with_reducible refine at_lit ?_); (try refine w_yes _ _ _ rfl rfl rfl ?_); refine w_new Try.elI (i64s [65536, 131072]) rfl rfl rfl (i64s_cells _) rfl (by omega) ?_; intro v3 w5 hx3 o3; replace o3 : OwnI _ w5 v3 [65536, 131072] := o3; replace o3 := o3.ints; replace o2 := o2.ext hx3; replace hT := hT.ext hx3; replace hO := hO.extend hx3; clear hx3)
    | ((with_reducible refine at_bi ?_); (try refine w_yes _ _ _ rfl rfl rfl ?_); refine i_len _ rfl rfl (v := v1) rfl o1 ?_)
    | fail) <;> (try simp only [Act.put, List.setIfInBounds_toArray, List.set_cons_zero, List.set_cons_succ]))
  go_ret
  exact Keep.intro ⟨rfl, hO.ext⟩
end Go.Proofs.Ytdacclcaopmalaa
