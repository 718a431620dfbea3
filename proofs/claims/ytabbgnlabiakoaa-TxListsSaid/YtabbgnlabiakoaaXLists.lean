/- The statement TxLists: any transactions as bytes are the document's. No condition. -/
import Derived.Test.YtabbgnlabiakoaaXNames
import Derived.Test.YtabbgnlabiakoaaNApp
namespace Go.Proofs.Ytabbgnlabiakoaa
open Go.RowKit Go.ChangeShapes Go.WideShapes Go.ChangeAt

theorem txrows_one {w : World} {rows : List (List Value)} {l : List TxD} (hl : rows.length = l.length) (hR : ∀ (k : Nat) (row : List Value) (d : TxD), rows[k]? = some row → l[k]? = some d → TxR w row d) : ∀ y ∈ rows, ∀ u ∈ y, u.oneCell' = true := by
  intro y hy
  obtain ⟨k, hk, rfl⟩ := List.getElem_of_mem hy
  obtain ⟨h, _⟩ := hR k _ _ (List.getElem?_eq_getElem hk) (List.getElem?_eq_getElem (by omega))
  rw [h]; exact TxD.one _

set_option maxRecDepth 100000 in
set_option maxHeartbeats 1600000 in
theorem txLists_law (v : Value) (l : List TxD) (W : World) (hl : Recs 2 TxR W v l) (hlen : l.length * 16 ≤ 140737488351232) :
    Calls Try.prog 5 #[v] W fun e w' => e = .returned (.bool true) ∧ Ext W w' := by
  refine calls_keep ?_
  obtain ⟨rows, hs, hrl0, hR0⟩ := id hl
  have hone := hide_ (txrows_one hrl0 hR0)
  have hbig := hide_ (show (([] : List (List Value)).length + rows.length) * 16 ≤ 140737488355328 from by rw [hrl0]; simp; omega)
  have hrl := hide_ hrl0
  have hR := hide_ hR0
  clear hrl0 hR0 hlen
  go_enter Try.func5, Try.ntmps5
  go_wp2_with ((first
    | (go_at_call 18; refine (TList_any r1).mono ?_; rintro e w3 ⟨v3, rfl, o3, hx⟩; have b3 := o3.byt; replace hX := hX.trans hx; clear o3 hx r1)
    | (go_at_call 19; refine (refTList_any (hl.ext TxR.stays hX)).mono ?_; rintro e w4 ⟨v5, rfl, o5, hx⟩; have b5 := o5.byt; replace b3 := b3.ext hx; replace hX := hX.trans hx; clear o5 hx)
    | (go_at_call 11; refine (alive_any _).mono ?_; rintro e w5 ⟨rfl, hx⟩; (try replace b3 := b3.ext hx); (try replace b5 := b5.ext hx); replace hX := hX.trans hx; clear hx)
    | (refine w_nnew Try.elTxN [] rfl rfl rfl (by simp) rfl (by omega) ?_; intro v0 w1 B hB1 hB2 hX hn0)
    | (refine w_napp0 Try.elTxN _ _ rfl rfl rfl rfl hn0 (hs.ext hX) hone.out hbig.out ?_; intro v1 w2 hm hn; rw [List.nil_append] at hn; have r1 : Recs 2 TxR w2 v1 l := hn.recs hrl.out hR.out; replace hX := hm.after hX (fun k hk => Nat.le_trans hB1 hk.1); clear hm hn hn0 hB1 hB2)
    | ((try refine w_yes _ _ _ rfl rfl rfl ?_); refine w_str _ rfl rfl (v := v3) rfl b3 ?_)
    | ((try refine w_yes _ _ _ rfl rfl rfl ?_); refine w_str _ rfl rfl (v := v5) rfl b5 ?_)
    | fail) <;> (try simp only [Act.put, List.setIfInBounds_toArray, List.set_cons_zero, List.set_cons_succ]))
  go_ret
  exact Keep.intro ⟨rfl, hX⟩

set_option maxRecDepth 100000 in
theorem txLists_lifted (os : Os) (started : os.Started) (H : Type) (enc : TypeId × Value → H) :
    ReturnsInHanded {} Try.checked os 5 .any (Rows.txListsSpec.pre6 enc Try.prog Try.f5 Rows.txListsRow.domain false) (Rows.txListsSpec.post enc Try.prog Try.f5 false true false false) := by
  refine law_lifted (s := Rows.txListsSpec) (conds := Rows.txListsRow.domain) Try.func5 (by kernel_rfl) rfl (fun H ds h => by
      rw [show Try.f5.params.size = 1 from rfl] at h
      match ds, h with
      | [d0], _ => rfl) rfl rfl (by decide +kernel) os started H enc
    (ChangeSpec.witness6 (enc := enc) (C := Try.checked) false ⟨#[], #[.slice none 0 0], []⟩ 8 (by kernel_rfl) (by kernel_rfl) (by kernel_rfl) (by kernel_rfl)) ?_
  intro W base args ds p hval hA hsz _
  have hp : Try.f5.params.toList = [35] := rfl
  rw [hp] at hA hsz
  obtain ⟨v0, d0, rfl, rfl, h0⟩ := trodAll_one hA
  obtain ⟨l0, a0, b0⟩ := arg_TxsL hsz (j := 0) rfl rfl (hval 0 35 v0 rfl rfl) h0
  rw [show Try.prog.bytesOf 23 = 16 from by kernel_rfl] at b0
  exact txLists_law v0 l0 W a0 b0

theorem txLists_holds : Rows.TxListsSaid :=
  OpenClaim.holds_of_wide 5 Try.f5 rfl rfl rfl rfl rfl rfl rfl ⟨rfl, rfl, rfl, rfl, rfl⟩ rfl rfl rfl rfl rfl (by kernel_rfl) Try.func5 (by kernel_rfl)
    (of_decide_eq_true (by kernel_rfl)) (by unfold Func.isWrapper; first | (rw [if_pos (by decide +kernel)]; kernel_rfl) | (rw [if_neg (by decide +kernel)]; exact ⟨rfl, rfl⟩))
    (fun os started H enc _ => txLists_lifted os started H enc)
#print axioms txLists_holds

end Go.Proofs.Ytabbgnlabiakoaa
