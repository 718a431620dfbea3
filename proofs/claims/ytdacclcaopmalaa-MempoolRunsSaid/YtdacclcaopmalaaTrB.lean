/- A new tree; whether a block is ready; the block of a name; the tip; whether a number is in a list. -/
import Derived.Test.YtdacclcaopmalaaTrA
import Derived.Test.YtdacclcaopmalaaBk2
namespace Go.Proofs.Ytdacclcaopmalaa
set_option maxRecDepth 100000
open Go.RowKit

section
variable {ops : Array Oper} {rest : List Oper} {o : Oper} {a : Act} {Q : Exit → Act → World → Prop} {w : World}
/-- map[int]..{} -/
theorem w_mkmap {t : TypeId} (hgd : o.guard = none) (ho : o.op = Op.makeMap t none)
    (k : ∀ g w', w.heap.size ≤ g → Ext w w' → w'.ownsMap Try.prog 3 tok g 0 (.map []) → wpList Try.prog ops Q rest (a.put o.dst (.map (some g))) w') : wpList Try.prog ops Q (o :: rest) a w := by
  refine wpList_plain hgd fun K hK => ?_
  have hk := hK _ _ (k w.heap.size (w.alloc (.map #[] 0)) (Nat.le_refl _) ((Ext.refl w).alloc _) (World.ownsMap_made w Try.prog 3 tok))
  unfold Oper.wp execOp
  simp [ho, run_makeMap, Result.andThen]
  exact hk
end

set_option maxRecDepth 100000 in
set_option maxHeartbeats 1600000 in
theorem New_any {w : World} : Calls Try.prog 23 #[] w fun e w' => ∃ (p : Nat) (G : Nat → Prop), e = .returned (.pointer (some ⟨p, 0, none⟩)) ∧ TrW G w' p [] [] ∧ Ext w w' ∧ ∀ k, G k → w.heap.size ≤ k := by
  refine calls_keep ?_
  go_enter Try.func23, Try.ntmps23
  go_wp2_with ((first
    | (refine w_mkmap rfl rfl ?_; intro g w1 hg1 hX hown)
    | ((with_reducible refine at_sbuild ?_); refine w_sbuild Try.stTree [.map (some g), .slice none 0 0] rfl rfl rfl (by simp [Value.cells]; rfl) ?_)
    | ((with_reducible refine at_box ?_); refine w_box _ [.map (some g), .slice none 0 0] rfl rfl rfl rfl ?_; intro p w2 hg2 hx2 f2; have hpg := Nat.lt_of_lt_of_le hown.lt hg2; replace hown := ownsMap_ext hown hx2; have hp := Nat.le_trans hX.size hg2; replace hX := hX.trans hx2)
    | fail) <;> (try simp only [Act.put, List.setIfInBounds_toArray, List.set_cons_zero, List.set_cons_succ]))
  go_ret
  refine Keep.intro ⟨p, fun k => k = p ∨ k = g, rfl, ⟨fun _ => False, g, .slice none 0 0, ⟨f2, ⟨0, .map [], [], by omega, hown, rfl, MapF.nil, by simp⟩, ⟨[], rfl, RowN.nil _ _ _, by simp⟩, ⟨by omega, id, id, fun k hk => by cases hk⟩, ⟨by simp, by simp, .nil, by simp, by simp⟩⟩, fun _ h => h.elim, .inl rfl, .inr rfl, fun k hk => by cases hk⟩, hX, fun k hk => ?_⟩
  rcases hk with rfl | rfl
  · exact hp
  · exact hg1

set_option maxRecDepth 100000 in
set_option maxHeartbeats 1600000 in
theorem ready_any {G : Nat → Prop} {w : World} {p : Nat} {K V : List BlkD} {d : BlkD} {u : Value} (h0 : TrW G w p K V) (hn : I64 d.parent) :
    Calls Try.prog 52 #[.pointer (some ⟨p, 0, none⟩), .agg #[.int .i64 d.slot, .int .i64 d.miner, .int .i64 d.var, .int .i64 d.parent, u]] w fun e w' => e = .returned (.bool (TrS.ready K d)) ∧ Ext w w' := by
  refine calls_keep ?_
  replace h0 := hide_ h0
  replace hn := hide_ hn
  cases hc : (d.parent == 0)
  · have he := hide_ (show TrS.ready K d = TrS.has K d.parent from by
      have : d.parent ≠ 0 := by simpa using hc
      simp [TrS.ready, this])
    go_enter Try.func52, Try.ntmps52
    go_wp2_with ((first
      | (go_at_call 50; refine (Has_any (h0.out.ext hX) hn.out).mono ?_; rintro e w4 ⟨rfl, hx⟩; rw [← he.out]; replace hX := hX.trans hx; clear hx f1)
      | ((with_reducible refine at_box ?_); refine w_box _ (bRow d u) rfl rfl rfl rfl ?_; intro g1 w1 hg1 hX f1)
      | ((with_reducible refine at_field ?_); (try refine w_yes _ _ _ rfl rfl rfl ?_); refine w_field Try.stBlk _ _ _ rfl rfl rfl (by omega) ?_)
      | ((with_reducible refine at_load ?_); (try refine w_yes _ _ _ rfl rfl rfl ?_); refine w_fload _ rfl rfl rfl f1 rfl (agg_of (by kernel_rfl)) ?_)
      | fail) <;> (try simp only [Act.put, List.setIfInBounds_toArray, List.set_cons_zero, List.set_cons_succ]))
    go_ret
    exact Keep.intro ⟨rfl, hX⟩
  · have he := hide_ (show TrS.ready K d = true from by
      have : d.parent = 0 := by simpa using hc
      simp [TrS.ready, this])
    go_enter Try.func52, Try.ntmps52
    go_wp2_with ((first
      | ((with_reducible refine at_box ?_); refine w_box _ (bRow d u) rfl rfl rfl rfl ?_; intro g1 w1 hg1 hX f1)
      | ((with_reducible refine at_field ?_); (try refine w_yes _ _ _ rfl rfl rfl ?_); refine w_field Try.stBlk _ _ _ rfl rfl rfl (by omega) ?_)
      | ((with_reducible refine at_load ?_); (try refine w_yes _ _ _ rfl rfl rfl ?_); refine w_fload _ rfl rfl rfl f1 rfl (agg_of (by kernel_rfl)) ?_)
      | fail) <;> (try simp only [Act.put, List.setIfInBounds_toArray, List.set_cons_zero, List.set_cons_succ]))
    go_ret
    exact Keep.intro ⟨by rw [he.out]; rfl, hX⟩

def getOr (K : List BlkD) (n : Int) : BlkD := (TrS.get K n).getD BlkD.zero
theorem TrC.look5 {X : Nat → Prop} {w : World} {p g : Nat} {v : Value} {K V : List BlkD} (h : TrC X w p g v K V) (n : Int) :
    ∃ cs : List Value, ∃ u : Value, ∃ r : Value, cs.length = 6 ∧ (∀ u ∈ cs, u.oneCell' = true) ∧ Look w g n (.agg cs.toArray) (TrS.has K n) ∧ cs = bRow (getOr K n) u ++ [r] ∧ Recs 2 TxR w u (getOr K n).txs ∧ (getOr K n).txs.length * 16 ≤ 140737488355328 := by
  obtain ⟨cs, h1, h2, h3, h4⟩ := h.look n
  rcases h4 with ⟨hg, rfl⟩ | ⟨d, u, hg, ht, rfl⟩
  · have he : getOr K n = BlkD.zero := by rw [getOr, hg]; rfl
    rw [he]
    exact ⟨_, .slice none 0 0, .int .i64 0, h1, h2, h3, rfl, (RowN.nil (F := fun _ => True) w 0 2).recs rfl (by simp), by simp [BlkD.zero]⟩
  · have he : getOr K n = d := by rw [getOr, hg]; rfl
    rw [he]
    have hd := h.fit.right d (List.mem_append_left _ (TrS.get_some hg).1)
    exact ⟨_, u, _, h1, h2, h3, rfl, ht.1, by have := hd.t.1; omega⟩

set_option maxRecDepth 100000 in
set_option maxHeartbeats 1600000 in
theorem Get_any {G : Nat → Prop} {w : World} {p : Nat} {K V : List BlkD} {n : Int} (h0 : TrW G w p K V) (hn : I64 n) :
    Calls Try.prog 34 #[.pointer (some ⟨p, 0, none⟩), .int .i64 n] w fun e w' => ∃ u, e = .returned (.tuple #[.agg (bRow (getOr K n) u).toArray, .bool (TrS.has K n)]) ∧ OwnT w.heap.size w' u (getOr K n).txs ∧ Ext w w' := by
  refine calls_keep ?_
  obtain ⟨X, g, v, h1, _⟩ := h0
  have f1 := h1.obj
  have hn' := hide_ hn
  obtain ⟨cs, uc, rc, hlen, hone, hl, hcs, hr, hl16⟩ := h1.look5 n
  obtain ⟨b, hb⟩ : ∃ b, getOr K n = b := ⟨_, rfl⟩
  obtain ⟨q, hq⟩ : ∃ q, TrS.has K n = q := ⟨_, rfl⟩
  rw [hb] at hcs hr hl16 ⊢
  rw [hq] at hl ⊢
  have hsub := hide_ (show ∀ j u, (bRow b uc)[j]? = some u → cs[0 + j]? = some u from fun j u hj => by
    rw [hcs, Nat.zero_add, List.getElem?_append_left (List.getElem?_eq_some_iff.1 hj).1]; exact hj)
  replace hl := hide_ hl
  replace hr := hide_ hr
  replace hl16 := hide_ hl16
  have hX := Ext.refl w
  clear h1 hq hb hcs
  go_enter Try.func34, Try.ntmps34
  go_wp2_with ((first
    | (go_at_call 24; refine (BCopy_any (b := b) (hr.out.ext TxR.stays hX) hl16.out).mono ?_; rintro e w8 ⟨u9, rfl, o9, hx⟩; have n49 : ∀ k, u9.ownBlock = some k → ¬ g4 = k := (fun k hk e => by have h1 := o9.new k hk; have h2 := f4.lt; omega); replace o9 := o9.mono hX.size; replace f4 := f4.ext hx; replace hX := hX.trans hx; have hone9 := blk_one (a := b.slot) (b := b.miner) (c := b.var) (d := b.parent) o9.recs.one'; clear hx f2)
    | (refine w_mlook _ _ rfl rfl rfl rfl hl.out hn'.out ?_)
    | ((with_reducible refine at_alloc ?_); refine w_alloc Try.stBlk rfl rfl ?_; intro g4 w1 hg4 hX f4; replace hl := hide_ (hl.out.ext hX); replace f1 := f1.ext hX)
    | ((with_reducible refine at_alloc ?_); refine w_allocN Try.stKn rfl rfl ?_; intro g2 w2 hg2 hx2 f2)
    | ((with_reducible refine at_store ?_); refine w_astoreN Try.stKn _ _ rfl rfl rfl rfl rfl f2 rfl hlen hone ?_; intro w3 hm3 f3; replace f2 : Fs w3 g2 cs := f3; replace hx2 := hm3.after hx2 (fun i hi => by subst hi; exact hg2); replace hX := hX.trans hx2; replace f4 := f4.ext hx2; clear hx2 hm3 f3)
    | ((with_reducible refine at_store ?_); refine w_astore Try.stBlk _ _ (us := bRow b u9) rfl rfl rfl rfl rfl f4 rfl rfl hone9 ?_; intro w3 hm3 f3; replace f4 : Fs w3 g4 (bRow b u9) := f3; replace o9 := o9.mod hm3 (fun k hk e => n49 k hk e.symm); replace hX := hm3.after hX (fun i hi => by subst hi; exact hg4); clear hm3 f3 n49)
    | ((with_reducible refine at_field ?_); (try refine w_yes _ _ _ rfl rfl rfl ?_); refine w_field Try.stTree _ _ _ rfl rfl rfl (by omega) ?_)
    | ((with_reducible refine at_field ?_); refine w_fieldN (i := 0) (off := 0) (by kernel_rfl) _ _ rfl rfl rfl ?_)
    | ((with_reducible refine at_load ?_); refine w_loadN Try.stBlk.toN _ (bRow b uc) rfl rfl rfl f2 rfl hsub.out ?_)
    | ((with_reducible refine at_load ?_); (try refine w_yes _ _ _ rfl rfl rfl ?_); refine w_fload _ rfl rfl rfl f1 rfl (agg_of (by kernel_rfl)) ?_)
    | fail) <;> (try simp only [Act.put, List.setIfInBounds_toArray, List.set_cons_zero, List.set_cons_succ]))
  exact bodyPost_ret (ret_two Try.stBlk rfl rfl rfl f4 rfl) rfl (Keep.intro ⟨u9, rfl, o9, hX⟩)
end Go.Proofs.Ytdacclcaopmalaa
