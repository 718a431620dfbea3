/- The first block that is ready, taken out of the queue. -/
import Derived.Test.YtdacclcaopmalaaTrI
namespace Go.Proofs.Ytdacclcaopmalaa
set_option maxRecDepth 100000
open Go.RowKit

theorem TrC.toW {X : Nat → Prop} {w : World} {p g : Nat} {v : Value} {K V : List BlkD} (h : TrC X w p g v K V) (hX : ∀ k, X k → k < w.heap.size) : TrW (fun _ => True) w p K V := ⟨X, g, v, h, fun k hk => ⟨trivial, hX k hk⟩, trivial, trivial, fun _ _ => trivial⟩
theorem TrC.lts {X : Nat → Prop} {w : World} {p g : Nat} {v : Value} {K V : List BlkD} (h : TrC X w p g v K V) : p < w.heap.size ∧ g < w.heap.size ∧ ∀ k, v.ownBlock = some k → k < w.heap.size := by
  obtain ⟨n, D, us, _, h2, _⟩ := h.map
  obtain ⟨vs, _, k2, _⟩ := h.que
  exact ⟨h.obj.lt, h2.lt, fun k hk => k2.lt hk⟩
theorem flat_take {n : Nat} : ∀ {rows : List (List Value)}, (∀ row ∈ rows, row.length = n) → ∀ i, rows.flatten.take (i * n) = (rows.take i).flatten
  | [], _, i => by simp
  | r :: rs, h, 0 => by simp
  | r :: rs, h, i + 1 => by
    have hr := h r (List.mem_cons_self ..)
    rw [List.flatten_cons, List.take_succ_cons, List.flatten_cons, Nat.add_mul, Nat.one_mul, Nat.add_comm, ← hr, List.take_length_add_append, hr, flat_take fun x hx => h x (List.mem_cons_of_mem _ hx)]
theorem flat_drop {n : Nat} : ∀ {rows : List (List Value)}, (∀ row ∈ rows, row.length = n) → ∀ i, rows.flatten.drop (i * n) = (rows.drop i).flatten
  | [], _, i => by simp
  | r :: rs, h, 0 => by simp
  | r :: rs, h, i + 1 => by
    have hr := h r (List.mem_cons_self ..)
    rw [List.flatten_cons, List.drop_succ_cons, Nat.add_mul, Nat.one_mul, Nat.add_comm, ← hr, List.drop_length_add_append, hr, flat_drop fun x hx => h x (List.mem_cons_of_mem _ hx)]
theorem zip_erase {α β γ : Type} (f : α → β → γ) {l : List α} {us : List β} (h : us.length = l.length) (i : Nat) : ((l.zip us).map fun x => f x.1 x.2).eraseIdx i = (((l.eraseIdx i).zip (us.eraseIdx i)).map fun x => f x.1 x.2) := by
  rw [List.eraseIdx_eq_take_drop_succ, List.eraseIdx_eq_take_drop_succ, List.eraseIdx_eq_take_drop_succ, List.zip_append (by simp [h]), List.map_append, ← List.map_take, ← List.map_drop]
  simp only [List.zip, List.take_zipWith, List.drop_zipWith]
/-- The tree behind a change of its queue. -/
theorem TrC.renew {X : Nat → Prop} {w w' : World} {p g : Nat} {v v' : Value} {K V V' : List BlkD} (h : TrC X w p g v K V) (hX : ∀ k, X k → k < w.heap.size) (hm : Mod (fun k => k = p ∨ v.ownBlock = some k) w w') (f : Fs w' p [.map (some g), v'])
    (q : ∃ us : List Value, us.length = V'.length ∧ RowN (fun k => v'.ownBlock = some k) w' 54 5 v' ((V'.zip us).map fun x => bRow x.1 x.2) ∧ ∀ x ∈ V'.zip us, TxX X w' x.2 x.1)
    (hv : ∀ k, v'.ownBlock = some k → v.ownBlock = some k ∨ w.heap.size ≤ k) (fit : Fit8 K V') : TrC X w' p g v' K V' := by
  obtain ⟨n, D, us, h1, h2, h3, h4, h5⟩ := h.map
  obtain ⟨s1, s2, s3, s4⟩ := h.sep
  have l := h.lts
  have hXF : ∀ k, X k → ¬ (k = p ∨ v.ownBlock = some k) := fun k hk hf => hf.elim (fun e => s2 (e ▸ hk)) fun e => (s4 k e).1 hk
  refine ⟨f, ⟨n, D, us, h1, ownsMap_mod h2 hm (fun hf => hf.elim (fun e => s1 e.symm) fun e => (s4 g e).2.2 rfl), h3, h4, fun x hx => (h5 x hx).mod hm hXF⟩, q, ⟨s1, s2, s3, fun k hk => ?_⟩, fit⟩
  rcases hv k hk with e | e
  · exact s4 k e
  · exact ⟨fun hx => by have := hX k hx; omega, by omega, by omega⟩
theorem Fit8.sub {K V V' : List BlkD} (h : Fit8 K V) (hs : V'.Sublist V) : Fit8 K V' := by
  refine ⟨fun b hb => ?_, ?_, h.stood, Nat.le_trans hs.length_le h.few, h.room⟩
  · rcases List.mem_append.1 hb with hb | hb
    · exact h.right b (List.mem_append_left _ hb)
    · exact h.right b (List.mem_append_right _ (hs.subset hb))
  · exact h.nodup.sublist ((List.Sublist.append_left hs K).map _)
/-- What an owned queue is. -/
theorem que_blk {w : World} {v : Value} {V : List BlkD} {us : List Value} (hl : us.length = V.length) (h : RowN (fun k => v.ownBlock = some k) w 54 5 v ((V.zip us).map fun x => bRow x.1 x.2)) (hn : V ≠ []) :
    ∃ g cap cs, v = .slice (some ⟨g, 0, none⟩) V.length cap ∧ Blk w g 54 cs ∧ cs.length = cap * 5 ∧ V.length ≤ cap ∧ cap ≤ maxLen ∧ cs.take (V.length * 5) = ((V.zip us).map fun x => bRow x.1 x.2).flatten := by
  have hlen : ((V.zip us).map fun x => bRow x.1 x.2).length = V.length := by simp [hl]
  obtain ⟨h0, hn0 | ⟨g, cap, cur, hv, _, hh, r1, r2, r3, r4⟩⟩ := h.own
  · rw [hlen] at hn0
    exact absurd (List.eq_nil_of_length_eq_zero hn0.2) hn
  · rw [hlen] at hv r1 r4
    exact ⟨g, cap, cur.toList, hv, hh, by simpa using r3, r1, r2, r4⟩
theorem row_len {V : List BlkD} {us : List Value} : ∀ row ∈ ((V.zip us).map fun x => bRow x.1 x.2), row.length = 5 := fun row h => by
  obtain ⟨x, _, rfl⟩ := List.mem_map.1 h; rfl

theorem Blk.mod {F : Nat → Prop} {w w' : World} {g : Nat} {e : TypeId} {cs : List Value} (h : Blk w g e cs) (hm : Mod F w w') (hn : ¬ F g) : Blk w' g e cs := (hm.block g h.lt hn).trans h
theorem que_of {w : World} {g cap n : Nat} {cs : List Value} {V : List BlkD} {us : List Value} (hB : Blk w g 54 cs) (hcl : cs.length = cap * 5) (hn : V.length ≤ cap) (hcm : cap ≤ maxLen) (hl : us.length = V.length) (he : n = V.length)
    (ht : cs.take (n * 5) = ((V.zip us).map fun x => bRow x.1 x.2).flatten) : RowN (fun k => (Value.slice (some ⟨g, 0, none⟩) n cap).ownBlock = some k) w 54 5 (.slice (some ⟨g, 0, none⟩) n cap) ((V.zip us).map fun x => bRow x.1 x.2) := by
  subst he
  have hlen : ((V.zip us).map fun x => bRow x.1 x.2).length = V.length := by simp [hl]
  refine ⟨⟨flat_len row_len, .inr ⟨g, cap, cs.toArray, by rw [hlen], Nat.zero_le _, hB, by omega, hcm, by simpa using hcl, by rw [hlen]; exact ht⟩⟩, row_len, fun k hk => hk⟩
/-- The queue without one of its blocks. -/
theorem que_take {w' : World} {g cap i : Nat} {cs cs' : List Value} {V : List BlkD} {us : List Value} (hl : us.length = V.length) (hi : i < V.length) (hn : V.length ≤ cap) (hcm : cap ≤ maxLen) (hct : cs.take (V.length * 5) = ((V.zip us).map fun x => bRow x.1 x.2).flatten)
    (hB : Blk w' g 54 cs') (hcl : cs'.length = cap * 5) (ht : cs'.take ((V.length - 1) * 5) = cs.take (i * 5) ++ (cs.drop ((i + 1) * 5)).take ((V.length - (i + 1)) * 5)) :
    (us.eraseIdx i).length = (V.eraseIdx i).length ∧ RowN (fun k => (Value.slice (some ⟨g, 0, none⟩) (V.length - 1) cap).ownBlock = some k) w' 54 5 (.slice (some ⟨g, 0, none⟩) (V.length - 1) cap) (((V.eraseIdx i).zip (us.eraseIdx i)).map fun x => bRow x.1 x.2) := by
  have e1 : (V.eraseIdx i).length = V.length - 1 := List.length_eraseIdx_of_lt hi
  have e2 : (us.eraseIdx i).length = V.length - 1 := by rw [List.length_eraseIdx_of_lt (by omega), hl]
  refine ⟨by omega, que_of hB hcl (by omega) hcm (by omega) e1.symm ?_⟩
  rw [ht, ← zip_erase _ hl, List.eraseIdx_eq_take_drop_succ, List.flatten_append, ← flat_take row_len, ← flat_drop row_len, ← hct]
  congr 1
  · rw [List.take_take, Nat.min_eq_left (by omega)]
  · rw [List.drop_take, Nat.sub_mul]

set_option maxRecDepth 100000 in
set_option maxHeartbeats 3200000 in
theorem take_none {X : Nat → Prop} {w : World} {p g : Nat} {v : Value} {K V : List BlkD} (h0 : TrC X w p g v K V) (hX0 : ∀ k, X k → k < w.heap.size) (hp : TrS.pick K V = none) :
    Calls Try.prog 76 #[.pointer (some ⟨p, 1, none⟩), .func (.func 52) #[.pointer (some ⟨p, 0, none⟩)] #[]] w fun e w' => e = .returned (.tuple #[.agg (bRow BlkD.zero (.slice none 0 0)).toArray, .bool false]) ∧ Ext w w' := by
  refine calls_keep ?_
  have f1 := h0.obj
  have hW := hide_ (h0.toW hX0)
  have hr := hide_ h0.recs
  have hfew := hide_ h0.fit.few
  replace hp := hide_ hp
  clear h0 hX0
  go_enter Try.func76, Try.ntmps76
  have hz1 : ∀ u ∈ bRow BlkD.zero (.slice none 0 0), u.oneCell' = true := blk_one rfl
  have tok1 : True := trivial
  go_wp2_with ((first
    | (go_at_call 88; refine (IndexFunc_any (hW.out.ext hX) (hr.out.ext (QR.stays X) hX) hfew.out).mono ?_; rintro e w4 ⟨r, rfl, hpk, hx⟩; obtain rfl : r = -1 := (hpk.elim (fun h => h.1) (fun ⟨i, x, _, _, h⟩ => by rw [hp.out] at h; cases h)); replace f4 := f4.ext hx; replace f1 := f1.ext hx; replace hX := hX.trans hx; clear hx hpk)
    | ((with_reducible refine at_alloc ?_); have _t := tok1; refine w_alloc Try.stBlk rfl rfl ?_; intro g4 w1 hg4 hX f4; replace f1 := f1.ext hX; clear tok1)
    | ((with_reducible refine at_alloc ?_); refine w_alloc Try.stBlk rfl rfl ?_; intro g7 w2 hg7 hx f7; replace f4 := f4.ext hx; replace f1 := f1.ext hx; replace hX := hX.trans hx; clear hx)
    | ((with_reducible refine at_store ?_); refine w_astore Try.stBlk _ _ (us := bRow BlkD.zero (.slice none 0 0)) rfl rfl rfl rfl rfl f4 rfl rfl hz1 ?_; intro w3 hm3 f3; replace f4 : Fs w3 g4 (bRow BlkD.zero (.slice none 0 0)) := f3; replace hX := hm3.after hX (fun i hi => by subst hi; exact hg4); clear hm3 f3)
    | ((with_reducible refine at_load ?_); refine w_aload Try.stBlk _ rfl rfl rfl f7 rfl ?_)
    | ((try refine w_yes _ _ _ rfl rfl rfl ?_); refine w_fieldO Try.stQue _ _ _ _ rfl rfl rfl (by omega) ?_)
    | ((with_reducible refine at_load ?_); refine w_fload _ rfl rfl rfl f1 rfl (agg_of (by kernel_rfl)) ?_)
    | fail) <;> (try simp only [Act.put, List.setIfInBounds_toArray, List.set_cons_zero, List.set_cons_succ]))
  exact bodyPost_ret (ret_two Try.stBlk rfl rfl rfl f4 rfl) rfl (Keep.intro ⟨rfl, hX⟩)

set_option maxRecDepth 100000 in
set_option maxHeartbeats 6400000 in
theorem take_some {X : Nat → Prop} {w : World} {p g : Nat} {v : Value} {K V r : List BlkD} {x : BlkD} (h0 : TrC X w p g v K V) (hX0 : ∀ k, X k → k < w.heap.size) (hp : TrS.pick K V = some (x, r)) :
    Calls Try.prog 76 #[.pointer (some ⟨p, 1, none⟩), .func (.func 52) #[.pointer (some ⟨p, 0, none⟩)] #[]] w fun e w' => ∃ (u v' : Value), e = .returned (.tuple #[.agg (bRow x u).toArray, .bool true]) ∧ TrC X w' p g v' K r ∧ TxX X w' u x ∧
      (∀ k, v'.ownBlock = some k → v.ownBlock = some k) ∧ Mod (fun k => k = p ∨ v.ownBlock = some k) w w' := by
  refine calls_keep ?_
  have f1 := h0.obj
  have hW := hide_ (h0.toW hX0)
  have hr := hide_ h0.recs
  have hfew := hide_ h0.fit.few
  obtain ⟨us, hus, hrow, htxs⟩ := h0.que
  have hVne : V ≠ [] := fun e => by subst e; simp [TrS.pick] at hp
  obtain ⟨gq, cap, cs, rfl, hB, hcl, hVc, hcm, hct⟩ := que_blk hus hrow hVne
  have hfit := hide_ h0.fit
  have hl := hide_ h0.lts
  have hsep := h0.sep
  have hgqp := hide_ (hsep.2.2.2 gq rfl).2.1
  have hgq := hide_ (h0.lts.2.2 gq rfl)
  have hct' := hide_ hct
  have h10 := hide_ (show ∀ u ∈ cs.take (V.length * 5), u.oneCell' = true from by
    rw [hct]
    intro u hu
    obtain ⟨row, hrw, hu⟩ := List.mem_flatten.1 hu
    obtain ⟨q, hq, rfl⟩ := List.mem_map.1 hrw
    exact blk_one ((htxs q hq).1.one') u hu)
  have hall := hide_ h0
  have hall2 := hide_ hX0
  have hus' := hide_ hus
  have htxs' := hide_ htxs
  replace hB := hide_ hB
  replace hcl := hide_ hcl
  have hn17 := hide_ (show V.length ≤ 100 from by have := h0.fit.few; omega)
  have hVc' := hide_ hVc
  have hcm' := hide_ hcm
  have hXq := hide_ (fun k hk (e : k = gq) => (h0.sep.2.2.2 gq rfl).1 (e ▸ hk) : ∀ k, X k → ¬ k = gq)
  have hXp := hide_ (fun k hk (e : k = p) => h0.sep.2.1 (e ▸ hk) : ∀ k, X k → ¬ k = p)
  replace hp := hide_ hp
  clear h0 hX0 hrow hVne hsep hct htxs hus hVc hcm
  go_enter Try.func76, Try.ntmps76
  have tok1 : True := trivial
  go_wp2_with ((first
    | (go_at_call 88; refine (IndexFunc_any (hW.out.ext hX) (hr.out.ext (QR.stays X) hX) hfew.out).mono ?_; rintro e w4 ⟨ri, rfl, hpk, hx⟩; obtain ⟨i, x', rfl, hi0, hpx⟩ := (hpk.resolve_left fun h => by rw [hp.out] at h; cases h.2); rw [hp.out] at hpx; injection hpx with hpx; injection hpx with hxx hrr; subst hxx; have hib : i ≤ 17 := (by have := (List.getElem?_eq_some_iff.1 hi0).1; have := hfew.out; omega); have hilt := hide_ (List.getElem?_eq_some_iff.1 hi0).1; replace hi0 := hide_ hi0; replace hrr := hide_ hrr; replace f4 := f4.ext hx; replace f1 := f1.ext hx; replace hX := hX.trans hx; clear hx hpk)
    | ((with_reducible refine at_alloc ?_); have _t := tok1; refine w_alloc Try.stBlk rfl rfl ?_; intro g4 w1 hg4 hX f4; replace f1 := f1.ext hX; have hg4' := hide_ f4.lt; clear tok1)
    | (go_at_call 75; refine (Delete_blk (cs := cs) (i := i) (b := (i : Int) + 1) (hB.out.ext hX) hcl.out hilt.out hn17.out hVc'.out (by omega) h10.out).mono ?_; rintro e w5 ⟨rfl, hmD, cs', hB', hcl', htk⟩; have hM := ((hX.mod fun k => k = p ∨ k = gq).trans hmD fun _ _ h => .inr h); replace f1 := f1.mod hmD (fun e => hgqp.out e.symm); replace f4 := f4.mod hmD (fun e => by have := hgq.out; omega); replace f8 := f8.mod hmD (fun e => by have := hgq.out; omega); replace htx := hide_ (htx.out.mod hmD hXq.out); clear hmD hX)
    | (refine w_qidx Try.enBlk.elS _ _ i rfl rfl rfl rfl hr.out hX hi0.out ?_; intro pa u hrow htx; have hone := hide_ (blk_one (a := x.slot) (b := x.miner) (c := x.var) (d := x.parent) htx.1.one'); replace hrow := hide_ hrow; replace htx := hide_ htx)
    | ((with_reducible refine at_load ?_); refine w_pload Try.stBlk _ rfl rfl rfl hrow.out rfl ?_)
    | ((with_reducible refine at_alloc ?_); refine w_alloc Try.stBlk rfl rfl ?_; intro g8 w2 hg8 hx8 f8; have hne48 := hide_ (Nat.lt_of_lt_of_le f4.lt hg8); replace hg8 := Nat.le_trans hX.size hg8; replace f4 := f4.ext hx8; replace f1 := f1.ext hx8; replace hX := hX.trans hx8; replace htx := hide_ (htx.out.ext hx8); clear hx8 hrow)
    | ((with_reducible refine at_store ?_); refine w_astore Try.stBlk _ _ (us := bRow x u) rfl rfl rfl rfl rfl f8 rfl rfl hone.out ?_; intro w3 hm3 f3; replace f8 : Fs w3 g8 (bRow x u) := f3; have hx3 := hm3.after hX (fun i hi => by subst hi; exact hg8); replace f1 := f1.mod hm3 (fun e => by have := hl.out.1; omega); replace f4 := f4.mod hm3 (fun e => by have := hne48.out; omega); replace htx := hide_ (htx.out.mod hm3 (fun k hk e => by have := hall2.out k hk; omega)); replace hX := hx3; clear hm3 f3 hx3)
    | ((with_reducible refine at_load ?_); refine w_aload Try.stBlk _ rfl rfl rfl f8 rfl ?_)
    | ((with_reducible refine at_store ?_); refine w_fstore _ _ rfl rfl rfl rfl rfl f1 (by simp) rfl rfl (by kernel_rfl) ?_; intro w6 hm6 f6; replace f1 : Fs w6 p [.map (some g), .slice (some ⟨gq, 0, none⟩) (V.length - 1) cap] := f6; replace hM := hM.trans hm6 (fun _ _ h => .inl h); replace f4 := f4.mod hm6 (fun e => by have := hl.out.1; omega); replace f8 := f8.mod hm6 (fun e => by have := hl.out.1; omega); replace htx := hide_ (htx.out.mod hm6 hXp.out); replace hB' := hB'.mod hm6 hgqp.out; clear hm6 f6)
    | ((with_reducible refine at_store ?_); refine w_astore Try.stBlk _ _ (us := bRow x u) rfl rfl rfl rfl rfl f4 rfl rfl hone.out ?_; intro w7 hm7 f7; replace f4 : Fs w7 g4 (bRow x u) := f7; replace hM := (hM.trans hm7 (fun k hk h => by have := h; omega)); replace f1 := f1.mod hm7 (fun e => by have := hl.out.1; omega); replace htx := hide_ (htx.out.mod hm7 (fun k hk e => by have := hall2.out k hk; omega)); replace hB' := hB'.mod hm7 (fun e => by have := hgq.out; omega); clear hm7 f7)
    | ((try refine w_yes _ _ _ rfl rfl rfl ?_); refine w_fieldO Try.stQue _ _ _ _ rfl rfl rfl (by omega) ?_)
    | ((with_reducible refine at_load ?_); refine w_fload _ rfl rfl rfl f1 rfl (agg_of (by kernel_rfl)) ?_)
    | fail) <;> (try simp only [Act.put, List.setIfInBounds_toArray, List.set_cons_zero, List.set_cons_succ]))
  obtain ⟨hq1, hq2⟩ := que_take hus'.out hilt.out hVc'.out hcm'.out hct'.out hB' hcl' htk
  have hM2 : Mod (fun k => k = p ∨ (Value.slice (some ⟨gq, 0, none⟩) V.length cap).ownBlock = some k) w _ := hM.mono fun k _ h => h.elim .inl fun e => .inr (by rw [e]; rfl)
  have hsub : (V.eraseIdx i).Sublist V := List.eraseIdx_sublist ..
  refine bodyPost_ret (ret_two Try.stBlk rfl rfl rfl f4 rfl) rfl (Keep.intro ⟨u, .slice (some ⟨gq, 0, none⟩) (V.length - 1) cap, rfl, ?_, htx.out, fun k hk => hk, hM2⟩)
  rw [hrr.out]
  have hz := zip_erase (fun (a : BlkD) (b : Value) => (a, b)) hus'.out i
  have hid : (fun x : BlkD × Value => (x.1, x.2)) = id := rfl
  rw [hid, List.map_id, List.map_id] at hz
  exact hall.out.renew hall2.out hM2 f1 ⟨_, hq1, hq2, fun y hy => by
    rw [← hz] at hy
    exact (htxs'.out y (List.mem_of_mem_eraseIdx hy)).mod hM fun k hk hf => hf.elim (hXp.out k hk) (hXq.out k hk)⟩ (fun k hk => .inl hk) (hfit.out.sub hsub)
end Go.Proofs.Ytdacclcaopmalaa
