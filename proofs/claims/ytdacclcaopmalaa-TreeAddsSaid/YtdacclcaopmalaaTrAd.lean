/- One more block for a tree. -/
import Derived.Test.YtdacclcaopmalaaTrN
namespace Go.Proofs.Ytdacclcaopmalaa
set_option maxRecDepth 100000
open Go.RowKit

theorem drain_acc : ∀ (f : Nat) (K W : List BlkD) (o : List Int), TrS.drain f K W o = ((TrS.drain f K W []).1, (TrS.drain f K W []).2.1, o ++ (TrS.drain f K W []).2.2)
  | 0, K, W, o => by simp [TrS.drain]
  | f + 1, K, W, o => by
    simp only [TrS.drain]
    cases TrS.pick K W with
    | none => simp
    | some q =>
      obtain ⟨x, r⟩ := q
      simp only
      split
      · rw [drain_acc f (K ++ [x]) r (o ++ [x.name]), drain_acc f (K ++ [x]) r ([] ++ [x.name])]; simp
      · rw [drain_acc f K r o]
section
variable {K V : List BlkD} {b : BlkD}
theorem add_c1 (h : b.name = 0 ∨ TrS.has K b.name = true ∨ TrS.has V b.name = true) : TrS.add ⟨K, V⟩ b = (⟨K, V⟩, [], false) := if_pos h
theorem add_c2 (h : ¬ (b.name = 0 ∨ TrS.has K b.name = true ∨ TrS.has V b.name = true)) (hr : TrS.ready K b = false) : TrS.add ⟨K, V⟩ b = (⟨K, pushQ V b⟩, [], true) := by
  unfold TrS.add
  rw [if_neg h, if_neg (by simp [hr])]; rfl
theorem add_c3 (h : ¬ (b.name = 0 ∨ TrS.has K b.name = true ∨ TrS.has V b.name = true)) (hr : TrS.ready K b = true) (hk : ¬ K.length < 400) : TrS.add ⟨K, V⟩ b = (⟨K, V⟩, [], false) := by
  unfold TrS.add
  rw [if_neg h, if_pos hr]; exact if_neg hk
theorem add_c4 (h : ¬ (b.name = 0 ∨ TrS.has K b.name = true ∨ TrS.has V b.name = true)) (hr : TrS.ready K b = true) (hk : K.length < 400) :
    TrS.add ⟨K, V⟩ b = (⟨(TrS.drain V.length (K ++ [b]) V []).1, (TrS.drain V.length (K ++ [b]) V []).2.1⟩, b.name :: (TrS.drain V.length (K ++ [b]) V []).2.2, true) := by
  unfold TrS.add
  rw [if_neg h, if_pos hr]
  simp only
  rw [if_pos hk, drain_acc]; rfl
theorem Fit8.more (h : Fit8 K V) (hr : b.Right) (h1 : TrS.has K b.name = false) (h2 : TrS.has V b.name = false) (hf : V.length ≤ 16) : Fit8 K (V ++ [b]) := by
  have hn := h.nodup
  refine ⟨fun c hc => ?_, ?_, h.stood, by simp; omega, h.room⟩
  · rw [← List.append_assoc] at hc
    rcases List.mem_append.1 hc with hc | hc
    · exact h.right c hc
    · simp at hc; subst hc; exact hr
  · rw [← List.append_assoc, List.map_append, List.nodup_append]
    refine ⟨hn, by simp, fun a ha c hc => ?_⟩
    simp at hc; subst hc
    obtain ⟨x, hx, rfl⟩ := List.mem_map.1 ha
    rcases List.mem_append.1 hx with hx | hx
    · exact TrS.has_false.1 h1 x hx
    · exact TrS.has_false.1 h2 x hx
theorem Fit8.grow (h : Fit8 K V) (hr : b.Right) (h1 : TrS.has K b.name = false) (h2 : TrS.has V b.name = false) (hf : V.length ≤ 16) (hrd : TrS.ready K b = true) (hk : K.length < 400) : Fit8 (K ++ [b]) V := by
  have h3 := h.more hr h1 h2 hf
  have hp : (V ++ [b]).Perm (b :: V) := List.perm_append_comm (l₂ := [b])
  refine Fit8.learn ⟨fun c hc => h3.right c ?_, (((hp.append_left K).map BlkD.name).nodup_iff).1 h3.nodup, h.stood, by simp; omega, h.room⟩ hrd hk
  rcases List.mem_append.1 hc with hc | hc
  · exact List.mem_append_left _ hc
  · exact List.mem_append_right _ (hp.mem_iff.2 hc)
end
theorem right_of_name {b : BlkD} (h : b.name ≠ 0) : b.Right := by
  unfold BlkD.name at h
  split at h
  · assumption
  · exact absurd rfl h
theorem TrC.widen {X Y : Nat → Prop} {w : World} {p g : Nat} {v : Value} {K V : List BlkD} (h : TrC X w p g v K V) (hX : ∀ k, X k → Y k) (hp : ¬ Y p) (hg : ¬ Y g) (hv : ∀ k, v.ownBlock = some k → ¬ Y k) : TrC Y w p g v K V := by
  obtain ⟨n, D, us, h1, h2, h3, h4, h5⟩ := h.map
  obtain ⟨vs, k1, k2, k3⟩ := h.que
  exact ⟨h.obj, ⟨n, D, us, h1, h2, h3, h4, fun x hx => (h5 x hx).mono hX⟩, ⟨vs, k1, k2, fun x hx => (k3 x hx).mono hX⟩, ⟨h.sep.1, hp, hg, fun k hk => ⟨hv k hk, (h.sep.2.2.2 k hk).2⟩⟩, h.fit⟩
/-- A block's own copy, new since lo. -/
def Sp.bcopy (lo : Nat) (b : BlkD) : Sp := .any (fun v w => ∃ u, v = .agg (bRow b u).toArray ∧ OwnT lo w u b.txs) fun _ _ _ ⟨u, h1, h2⟩ he => ⟨u, h1, h2.ext he⟩
/-- The blocks of transactions, and those of a new copy. -/
def X46 (X : Nat → Prop) (u : Value) (k : Nat) : Prop := X k ∨ u.ownBlock = some k
theorem tree_copy {X : Nat → Prop} {w wd : World} {p g : Nat} {v u : Value} {K V : List BlkD} {b : BlkD} (h : TrC X w p g v K V) (hX0 : ∀ k, X k → k < w.heap.size) (hX : Ext w wd) (ho : OwnT w.heap.size wd u b.txs) (hraw : b.Raw) :
    TrC (X46 X u) wd p g v K V ∧ TxX (X46 X u) wd u b ∧ (∀ k, X46 X u k → k < wd.heap.size) ∧ ∀ k, X46 X u k → X k ∨ w.heap.size ≤ k := by
  have l := h.lts
  refine ⟨(h.ext hX).widen (fun k hk => .inl hk) (fun hk => hk.elim h.sep.2.1 fun e => by have := ho.new _ e; omega) (fun hk => hk.elim h.sep.2.2.1 fun e => by have := ho.new _ e; omega) (fun k hk hy => hy.elim (h.sep.2.2.2 k hk).1 fun e => by have := ho.new _ e; have := l.2.2 k hk; omega), ⟨ho.recs, hraw, fun k hk => ⟨.inr hk, ho.lt hk⟩⟩, fun k hk => hk.elim (fun e => Nat.lt_of_lt_of_le (hX0 k e) hX.size) fun e => ho.lt e, fun k hk => hk.imp_right fun e => ho.new k e⟩
theorem tree_fin {X Y G : Nat → Prop} {w w' : World} {p g : Nat} {v v' : Value} {K' V' : List BlkD} (hXG : ∀ k, X k → G k ∧ k < w.heap.size) (hGp : G p) (hGg : G g) (hGv : ∀ k, v.ownBlock = some k → G k) (hM : Mod (F49 p g v) w w') (hT : TrC Y w' p g v' K' V') (hY : ∀ k, Y k → (X k ∨ w.heap.size ≤ k) ∧ k < w'.heap.size)
    (hv : ∀ k, v'.ownBlock = some k → v.ownBlock = some k ∨ w.heap.size ≤ k) : TrW (fun k => G k ∨ (w.heap.size ≤ k ∧ k < w'.heap.size)) w' p K' V' ∧ Upd G (fun k => G k ∨ (w.heap.size ≤ k ∧ k < w'.heap.size)) w w' := by
  have l := hT.lts
  refine ⟨⟨Y, g, v', hT, fun k hk => ⟨?_, (hY k hk).2⟩, .inl hGp, .inl hGg, fun k hk => ?_⟩, ⟨hM.mono fun k _ hk => hk.elim (fun e => e ▸ hGp) fun e => e.elim (fun e => e ▸ hGg) (hGv k), fun k hk => hk⟩⟩
  · rcases (hY k hk).1 with e | e
    · exact .inl (hXG k e).1
    · exact .inr ⟨e, (hY k hk).2⟩
  · rcases hv k hk with e | e
    · exact .inl (hGv k e)
    · exact .inr ⟨e, l.2.2 k hk⟩

theorem learn_n {X : Nat → Prop} {w : World} {p g : Nat} {v u : Value} {K V : List BlkD} {b : BlkD} {n : Int} (hn : b.name = n) (h0 : TrC X w p g v K V) (hX0 : ∀ k, X k → k < w.heap.size) (ht0 : TxX X w u b) (hfit0 : Fit8 (K ++ [b]) V) (hrd : TrS.ready K b = true) :
    Calls Try.prog 55 #[.pointer (some ⟨p, 0, none⟩), .int .i64 n, .agg #[.int .i64 b.slot, .int .i64 b.miner, .int .i64 b.var, .int .i64 b.parent, u]] w fun e w' => e = .returned (.tuple #[]) ∧ TrC X w' p g v (K ++ [b]) V ∧ Mod (fun k => k = g) w w' := by
  subst hn; exact learn_any h0 hX0 ht0 hfit0 hrd
theorem drain_names_len : ∀ (f : Nat) (K W : List BlkD), (TrS.drain f K W []).2.2.length ≤ f
  | 0, K, W => by simp [TrS.drain]
  | f + 1, K, W => by
    simp only [TrS.drain]
    cases TrS.pick K W with
    | none => simp
    | some q =>
      obtain ⟨x, r⟩ := q
      simp only
      split
      · rw [drain_acc]
        have := drain_names_len f (K ++ [x]) r
        simp; omega
      · have := drain_names_len f K r
        omega

set_option maxRecDepth 100000 in
set_option maxHeartbeats 6400000 in
theorem Add_any {G : Nat → Prop} {w : World} {p : Nat} {K V : List BlkD} {b : BlkD} {u : Value} (h00 : TrW G w p K V) (hV : V.length ≤ 16) (hu0 : Recs 2 TxR w u b.txs) (hraw : b.Raw) :
    Calls Try.prog 25 #[.pointer (some ⟨p, 0, none⟩), .agg #[.int .i64 b.slot, .int .i64 b.miner, .int .i64 b.var, .int .i64 b.parent, u]] w fun e w' => ∃ (v' : Value) (G' : Nat → Prop), e = .returned (.tuple #[v', .bool (TrS.add ⟨K, V⟩ b).2.2]) ∧
      OwnI w.heap.size w' v' (TrS.add ⟨K, V⟩ b).2.1 ∧ TrW G' w' p (TrS.add ⟨K, V⟩ b).1.known (TrS.add ⟨K, V⟩ b).1.wait ∧ Upd G G' w w' := by
  refine calls_keep ?_
  have hpar := hide_ (show I64 b.parent from hraw.par)
  have h0 := hide_ h00
  have hu := hide_ hu0
  have hone := blk_one (a := b.slot) (b := b.miner) (c := b.var) (d := b.parent) hu0.one'
  obtain ⟨n, hn⟩ : ∃ n, b.name = n := ⟨_, rfl⟩
  have hn' := hide_ hn
  obtain ⟨R, hR⟩ : ∃ R, TrS.add ⟨K, V⟩ b = R := ⟨_, rfl⟩
  rw [hR]
  cases q0 : (n == 0)
  rotate_left
  · obtain rfl : n = 0 := by simpa using q0
    obtain rfl : R = (⟨K, V⟩, [], false) := by rw [← hR]; exact add_c1 (.inl hn)
    clear hR hn q0 hu0 h00 hone
    go_enter Try.func25, Try.ntmps25
    go_wp2_with ((first
      | (go_at_call 49; refine (BName_any (b := b) (hu.out.ext TxR.stays hX) hpar.out).mono ?_; rintro e w4 ⟨rfl, hx⟩; rw [hn'.out]; replace f3 := f3.ext hx; replace hX := hX.trans hx; clear hx)
      | ((with_reducible refine at_box ?_); refine w_box _ (bRow b u) rfl rfl rfl rfl ?_; intro g3 w1 hg3 hX f3)
      | ((with_reducible refine at_load ?_); refine w_aload Try.stBlk _ rfl rfl rfl f3 rfl ?_)
      | fail) <;> (try simp only [Act.put, List.setIfInBounds_toArray, List.set_cons_zero, List.set_cons_succ]))
    go_ret2
    exact Keep.intro ⟨_, G, rfl, OwnI.nil _ _, h0.out.ext hX, Upd.ofExt hX G⟩
  have hn0 : n ≠ 0 := by simpa using q0
  have hright : b.Right := right_of_name (by rw [hn]; exact hn0)
  have hnm := hide_ (show I64 n from hn ▸ hright.i64)
  cases q1 : TrS.has K n
  rotate_left
  · obtain rfl : R = (⟨K, V⟩, [], false) := by rw [← hR]; exact add_c1 (.inr (.inl (by rw [hn]; exact q1)))
    have q1' := hide_ q1
    clear hR hn hu0 h00 hone hn0 q1
    go_enter Try.func25, Try.ntmps25
    go_wp2_with ((first
      | (go_at_call 49; refine (BName_any (b := b) (hu.out.ext TxR.stays hX) hpar.out).mono ?_; rintro e w4 ⟨rfl, hx⟩; rw [hn'.out]; replace f3 := f3.ext hx; replace hX := hX.trans hx; clear hx)
      | (go_at_call 50; refine (Has_any (n := n) (h0.out.ext hX) hnm.out).mono ?_; rintro e w4 ⟨rfl, hx⟩; rw [q1'.out]; replace f3 := f3.ext hx; replace hX := hX.trans hx; clear hx)
      | ((with_reducible refine at_box ?_); refine w_box _ (bRow b u) rfl rfl rfl rfl ?_; intro g3 w1 hg3 hX f3)
      | ((with_reducible refine at_load ?_); refine w_aload Try.stBlk _ rfl rfl rfl f3 rfl ?_)
      | fail) <;> (try simp only [Act.put, List.setIfInBounds_toArray, List.set_cons_zero, List.set_cons_succ]))
    go_ret2
    exact Keep.intro ⟨_, G, rfl, OwnI.nil _ _, h0.out.ext hX, Upd.ofExt hX G⟩
  cases q2 : TrS.has V n
  rotate_left
  · obtain rfl : R = (⟨K, V⟩, [], false) := by rw [← hR]; exact add_c1 (.inr (.inr (by rw [hn]; exact q2)))
    have q1' := hide_ q1
    have q2' := hide_ q2
    clear hR hn hu0 h00 hone hn0 q1 q2
    go_enter Try.func25, Try.ntmps25
    go_wp2_with ((first
      | (go_at_call 49; refine (BName_any (b := b) (hu.out.ext TxR.stays hX) hpar.out).mono ?_; rintro e w4 ⟨rfl, hx⟩; rw [hn'.out]; replace f3 := f3.ext hx; replace hX := hX.trans hx; clear hx)
      | (go_at_call 50; refine (Has_any (n := n) (h0.out.ext hX) hnm.out).mono ?_; rintro e w4 ⟨rfl, hx⟩; rw [q1'.out]; replace f3 := f3.ext hx; replace hX := hX.trans hx; clear hx)
      | (go_at_call 51; refine (waits_any (n := n) (h0.out.ext hX)).mono ?_; rintro e w4 ⟨rfl, hx⟩; rw [q2'.out]; replace f3 := f3.ext hx; replace hX := hX.trans hx; clear hx)
      | ((with_reducible refine at_box ?_); refine w_box _ (bRow b u) rfl rfl rfl rfl ?_; intro g3 w1 hg3 hX f3)
      | ((with_reducible refine at_load ?_); refine w_aload Try.stBlk _ rfl rfl rfl f3 rfl ?_)
      | fail) <;> (try simp only [Act.put, List.setIfInBounds_toArray, List.set_cons_zero, List.set_cons_succ]))
    go_ret2
    exact Keep.intro ⟨_, G, rfl, OwnI.nil _ _, h0.out.ext hX, Upd.ofExt hX G⟩
  have hc : ¬ (b.name = 0 ∨ TrS.has K b.name = true ∨ TrS.has V b.name = true) := by rw [hn, q1, q2]; simp [hn0]
  have q1' := hide_ q1
  have q2' := hide_ q2
  obtain ⟨X, g, v, hC, hXG, hGp, hGg, hGv⟩ := h00
  have hXl : ∀ k, X k → k < w.heap.size := fun k hk => (hXG k hk).2
  have hl16 := hide_ (show b.txs.length * 16 ≤ 140737488355328 from by have := hright.t.1; omega)
  have hK1 : TrS.has K b.name = false := by rw [hn]; exact q1
  have hK2 : TrS.has V b.name = false := by rw [hn]; exact q2
  cases q3 : TrS.ready K b
  · have hfit := hide_ (hC.fit.more hright hK1 hK2 hV)
    obtain rfl : R = (⟨K, pushQ V b⟩, [], true) := by rw [← hR]; exact add_c2 hc q3
    have q3' := hide_ q3
    have hC' := hide_ hC
    have hXl' := hide_ hXl
    have hall := hide_ (show ∀ k, X k → G k ∧ k < w.heap.size from hXG)
    clear hR hn hu0 hn0 q1 q2 q3 hc hK1 hK2 hXG hXl hright
    go_enter Try.func25, Try.ntmps25
    go_wp2_with ((first
      | (go_at_call 49; refine (BName_any (b := b) (hu.out.ext TxR.stays hX) hpar.out).mono ?_; rintro e w4 ⟨rfl, hx⟩; rw [hn'.out]; replace f3 := f3.ext hx; replace hX := hX.trans hx; clear hx)
      | (go_at_call 50; refine (Has_any (n := n) (h0.out.ext hX) hnm.out).mono ?_; rintro e w4 ⟨rfl, hx⟩; rw [q1'.out]; replace f3 := f3.ext hx; replace hX := hX.trans hx; clear hx)
      | (go_at_call 51; refine (waits_any (n := n) (h0.out.ext hX)).mono ?_; rintro e w4 ⟨rfl, hx⟩; rw [q2'.out]; replace f3 := f3.ext hx; replace hX := hX.trans hx; clear hx)
      | (go_at_call 52; refine (ready_any (d := b) (u := u) (h0.out.ext hX) hpar.out).mono ?_; rintro e w4 ⟨rfl, hx⟩; rw [q3'.out]; replace f3 := f3.ext hx; replace hX := hX.trans hx; clear hx)
      | ((with_reducible refine at_box ?_); refine w_box _ (bRow b u) rfl rfl rfl rfl ?_; intro g3 w1 hg3 hX f3)
      | ((with_reducible refine at_load ?_); refine w_aload Try.stBlk _ rfl rfl rfl f3 rfl ?_)
      | fail) <;> (try simp only [Act.put, List.setIfInBounds_toArray, List.set_cons_zero, List.set_cons_succ]))
    refine wp_region_phx (by kernel_rfl) ?_; intro wd hxd; have H3 := f3.ext hxd
    refine Ph.gate 0 5 (by kernel_rfl) ?_
    refine LinL.step (s := (.val (.pointer (some ⟨p, 0, none⟩)))) [(0, none)] rfl (by kernel_rfl) (op_out 0 (.pointer (some ⟨p, 0, none⟩)) rfl (.inl rfl) rfl) ?_
    refine LinL.step (s := (.val (.pointer (some ⟨p, 0, none⟩)))) [(25, some 0)] rfl (by kernel_rfl) (op_runs rfl fun σ w' hx hg => ⟨_, runs_nil (ρ := σ.eval) (w := w') (.tmp 25) rfl hg.1, rfl⟩) ?_
    refine LinL.step (s := (.val (.pointer (some ⟨p, 1, none⟩)))) [(26, some 0)] rfl (by kernel_rfl) (op_runs rfl fun σ w' hx hg => ⟨_, runs_field (ρ := σ.eval) (w := w') Try.stTree (.tmp 26) p 1 rfl hg.1 (by omega), rfl⟩) ?_
    refine LinL.step (s := (.val (.agg #[.int .i64 b.slot, .int .i64 b.miner, .int .i64 b.var, .int .i64 b.parent, u]))) [(3, none)] rfl (by kernel_rfl) (op_runs rfl fun σ w' hx hg => ⟨_, runs_aload (ρ := σ.eval) (w := w') Try.stBlk (.tmp 3) rfl hg.1 (H3.ext hx) rfl, rfl⟩) ?_
    refine LinL.step (s := Sp.bcopy w.heap.size b) [(28, some 0)] rfl (by kernel_rfl) (op_calls 24 #[(.tmp 28)] #[54] (fun σ => #[.agg #[.int .i64 b.slot, .int .i64 b.miner, .int .i64 b.var, .int .i64 b.parent, u]]) rfl rfl (fun _ _ => rfl) fun σ w' hx hg => ⟨by have h9 : σ.tmps.getD 28 undef = .agg #[.int .i64 b.slot, .int .i64 b.miner, .int .i64 b.var, .int .i64 b.parent, u] := hg.1; simp only [List.map_toArray, List.map_cons, List.map_nil, Act.eval, h9],
      (BCopy_any (b := b) (hu.out.ext TxR.stays ((hX.trans hxd).trans hx)) hl16.out).mono fun e w'' ⟨u', he, ho, hx'⟩ => ⟨_, he, hx', u', rfl, ho.mono ((hX.trans hxd).trans hx).size⟩⟩) ?_
    intro wN hxN
    simp only [Fin', Sp.bcopy, List.reverse_cons, List.reverse_nil, List.nil_append, List.cons_append, List.drop_zero, List.take_succ_cons, List.take_zero]
    intro q29 hq29
    obtain ⟨u', rfl, ho⟩ := hq29
    simp only [Act.put, List.setIfInBounds_toArray, List.set_cons_zero, List.set_cons_succ]
    replace hX := hX.trans (hxd.trans hxN)
    obtain ⟨hT, ht, hY, hYX⟩ := tree_copy hC'.out hXl'.out hX ho hraw
    refine wpOp_call 53 #[.pointer (some ⟨p, 1, none⟩), .agg #[.int .i64 b.slot, .int .i64 b.miner, .int .i64 b.var, .int .i64 b.parent, u'], .int .i64 16] 30 rfl rfl rfl rfl (fun _ _ => rfl) (by simp only [List.map_toArray, List.map_cons, List.map_nil, Act.eval]; rfl) ?_
    refine (push_any hT hY ht hV hfit.out).mono ?_; rintro e w5 ⟨rfl, v', hT5, hM5, hv5⟩; refine ⟨_, rfl, ?_⟩
    simp only [Act.put, List.setIfInBounds_toArray, List.set_cons_zero, List.set_cons_succ]
    show Ph Try.prog _ _ 6 _ _
    refine Ph.rest 6 0 (by kernel_rfl) ?_
    intro wN2 hxN2
    simp only [Fin', List.reverse_nil, List.drop_zero, List.drop_succ_cons, List.take_zero]
    have hM : Mod (F49 p g v) w wN2 := ((hX.mod (F49 p g v)).trans hM5 fun k _ e => e.elim .inl fun e => .inr (.inr e)).then_ext hxN2
    obtain ⟨hW, hU⟩ := tree_fin hall.out hGp hGg hGv hM (hT5.ext hxN2) (fun k hk => ⟨hYX k hk, Nat.lt_of_lt_of_le (hY k hk) (Nat.le_trans hM5.size hxN2.size)⟩) (fun k hk => (hv5 k hk).imp_right fun e => Nat.le_trans hX.size e)
    clear hxd hxN hxN2 H3 f3 hX hT ht hY hYX hT5 hM5 hv5 hM ho
    go_wp2
    go_ret2
    exact Keep.intro ⟨_, _, rfl, OwnI.nil _ _, hW, hU⟩
  by_cases hk : K.length < 400
  rotate_left
  · have q4' := hide_ (show decide (400 ≤ K.length) = true from decide_eq_true (by omega))
    obtain rfl : R = (⟨K, V⟩, [], false) := by rw [← hR]; exact add_c3 hc q3 hk
    have q3' := hide_ q3
    clear hR hn hu0 hn0 q1 q2 q3 hc hK1 hK2 hXG hXl hright hC hone hk
    go_enter Try.func25, Try.ntmps25
    go_wp2_with ((first
      | (go_at_call 49; refine (BName_any (b := b) (hu.out.ext TxR.stays hX) hpar.out).mono ?_; rintro e w4 ⟨rfl, hx⟩; rw [hn'.out]; replace f3 := f3.ext hx; replace hX := hX.trans hx; clear hx)
      | (go_at_call 50; refine (Has_any (n := n) (h0.out.ext hX) hnm.out).mono ?_; rintro e w4 ⟨rfl, hx⟩; rw [q1'.out]; replace f3 := f3.ext hx; replace hX := hX.trans hx; clear hx)
      | (go_at_call 51; refine (waits_any (n := n) (h0.out.ext hX)).mono ?_; rintro e w4 ⟨rfl, hx⟩; rw [q2'.out]; replace f3 := f3.ext hx; replace hX := hX.trans hx; clear hx)
      | (go_at_call 52; refine (ready_any (d := b) (u := u) (h0.out.ext hX) hpar.out).mono ?_; rintro e w4 ⟨rfl, hx⟩; rw [q3'.out]; replace f3 := f3.ext hx; replace hX := hX.trans hx; clear hx)
      | (go_at_call 54; refine (full_any (h0.out.ext hX)).mono ?_; rintro e w4 ⟨rfl, hx⟩; rw [q4'.out]; replace f3 := f3.ext hx; replace hX := hX.trans hx; clear hx)
      | ((with_reducible refine at_box ?_); refine w_box _ (bRow b u) rfl rfl rfl rfl ?_; intro g3 w1 hg3 hX f3)
      | ((with_reducible refine at_load ?_); refine w_aload Try.stBlk _ rfl rfl rfl f3 rfl ?_)
      | fail) <;> (try simp only [Act.put, List.setIfInBounds_toArray, List.set_cons_zero, List.set_cons_succ]))
    go_ret2
    exact Keep.intro ⟨_, G, rfl, OwnI.nil _ _, h0.out.ext hX, Upd.ofExt hX G⟩
  have q4' := hide_ (show decide (400 ≤ K.length) = false from decide_eq_false (by omega))
  have hfit := hide_ (hC.fit.grow hright hK1 hK2 hV q3 hk)
  obtain ⟨D, hD⟩ : ∃ D, TrS.drain V.length (K ++ [b]) V [] = D := ⟨_, rfl⟩
  obtain rfl : R = (⟨D.1, D.2.1⟩, n :: D.2.2, true) := by rw [← hR, add_c4 hc q3 hk, hD, hn]
  have hbig := hide_ (show ([n].length + D.2.2.length) * 8 ≤ 140737488355328 from by have := drain_names_len V.length (K ++ [b]) V; rw [hD] at this; simp; omega)
  have hD' := hide_ hD
  have q3' := hide_ q3
  have hC' := hide_ hC
  have hXl' := hide_ hXl
  have hall := hide_ (show ∀ k, X k → G k ∧ k < w.heap.size from hXG)
  have hl := hide_ hC.lts
  clear hR hn hu0 hn0 q1 q2 q3 hc hK1 hK2 hXG hXl hright hC hk hD
  go_enter Try.func25, Try.ntmps25
  go_wp2_with ((first
    | (go_at_call 49; refine (BName_any (b := b) (hu.out.ext TxR.stays hX) hpar.out).mono ?_; rintro e w4 ⟨rfl, hx⟩; rw [hn'.out]; replace f3 := f3.ext hx; replace hX := hX.trans hx; clear hx)
    | (go_at_call 50; refine (Has_any (n := n) (h0.out.ext hX) hnm.out).mono ?_; rintro e w4 ⟨rfl, hx⟩; rw [q1'.out]; replace f3 := f3.ext hx; replace hX := hX.trans hx; clear hx)
    | (go_at_call 51; refine (waits_any (n := n) (h0.out.ext hX)).mono ?_; rintro e w4 ⟨rfl, hx⟩; rw [q2'.out]; replace f3 := f3.ext hx; replace hX := hX.trans hx; clear hx)
    | (go_at_call 52; refine (ready_any (d := b) (u := u) (h0.out.ext hX) hpar.out).mono ?_; rintro e w4 ⟨rfl, hx⟩; rw [q3'.out]; replace f3 := f3.ext hx; replace hX := hX.trans hx; clear hx)
    | (go_at_call 54; refine (full_any (h0.out.ext hX)).mono ?_; rintro e w4 ⟨rfl, hx⟩; rw [q4'.out]; replace f3 := f3.ext hx; replace hX := hX.trans hx; clear hx)
    | (go_at_call 24; refine (BCopy_any (b := b) (hu.out.ext TxR.stays hX) hl16.out).mono ?_; rintro e w5 ⟨u', rfl, hO, hx⟩; replace hO := hO.mono hX.size; replace hX := hX.trans hx; obtain ⟨hT, ht, hY, hYX⟩ := tree_copy hC'.out hXl'.out hX hO hraw; clear hx f3 hO)
    | (go_at_call 55; refine (learn_n hn'.out hT hY ht hfit.out q3'.out).mono ?_; rintro e w6 ⟨rfl, hT6, hM6⟩; replace hY := (fun k hk => Nat.lt_of_lt_of_le (hY k hk) hM6.size); have hM := (hX.mod (F49 p g v)).trans hM6 (fun _ _ e => .inr (.inl e)); clear hT ht hM6 hX)
    | (go_at_call 56; refine (learnReady_any hT6 (fun k hk => Nat.lt_of_lt_of_le (hY k hk) hs7)).mono ?_; rintro e w8 ⟨u3, v8, rfl, o3, hT8, hv8, hM8⟩; rw [hD'.out] at o3 hT8; replace o3 := o3.ints; replace o2 := own_mod o2 hM8 (fun k hk h => by have h1 := (own_block_lt (g := k) o2 hk).1; have h2 := hw6.out; exact h.elim (fun e => by have := hl.out.1; omega) fun h => h.elim (fun e => by have := hl.out.2.1; omega) fun e => by have := hl.out.2.2 k e; omega); replace hM := hM.trans hM8 (fun _ _ e => e); have hs8 := Nat.le_trans hs7 hM8.size; clear hT6 hM8)
    | ((with_reducible refine at_box ?_); refine w_box _ (bRow b u) rfl rfl rfl rfl ?_; intro g3 w1 hg3 hX f3)
    | ((with_reducible refine at_load ?_); refine w_aload Try.stBlk _ rfl rfl rfl f3 rfl ?_)
    | ((with_reducible refine at_lit ?_); refine w_new Try.elI (i64s [n]) rfl rfl rfl (i64s_cells _) rfl (by omega) ?_; intro v2 w7 hx3 o2; replace o2 : OwnI _ w7 v2 [n] := o2; have hw6 := hide_ hM.size; have hs7 := hx3.size; replace hT6 := hT6.ext hx3; replace hM := hM.then_ext hx3; clear hx3)
    | ((with_reducible refine at_bi ?_); refine appi _ _ rfl rfl rfl rfl o2 o3 hbig.out hs8 ?_; intro v9 w9 o9 hb9 hg9 hg9'; have hgm := Mod.grown hg9; have hge := hide_ (fun k hk => (own_block_lt (g := k) o2 hk).1); replace hT8 := hT8.mod hgm (fun k hk e => by have h1 := hY k hk; have h2 := hge.out k e; omega) (fun e => by have h1 := hl.out.1; have h2 := hge.out _ e; have h3 := hw6.out; omega) (fun e => by have h1 := hl.out.2.1; have h2 := hge.out _ e; have h3 := hw6.out; omega) (fun k hk e => by have h1 := hl.out.2.2 k (hv8 k hk); have h2 := hge.out k e; have h3 := hw6.out; omega); replace hM := hM.trans hgm (fun k hk e => by have h2 := hge.out k e; have h3 := hw6.out; omega); have hsz9 := Nat.le_trans hs8 hgm.size; clear hgm hge hb9 hg9 hg9' o2)
    | fail) <;> (try simp only [Act.put, List.setIfInBounds_toArray, List.set_cons_zero, List.set_cons_succ]))
  go_ret2
  obtain ⟨hW, hU⟩ := tree_fin hall.out hGp hGg hGv hM hT8 (fun k hk => ⟨hYX k hk, Nat.lt_of_lt_of_le (hY k hk) hsz9⟩) (fun k hk => .inl (hv8 k hk))
  exact Keep.intro ⟨v9, _, rfl, o9.mono hw6.out, hW, hU⟩
end Go.Proofs.Ytdacclcaopmalaa
