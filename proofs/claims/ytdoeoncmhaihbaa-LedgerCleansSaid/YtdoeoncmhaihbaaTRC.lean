/- slices.Delete on a slice of blocks that the call owns: one of them taken out: the contract. · The first block of a queue that is ready: slices.IndexFunc with the tree's own method. · The first block that is ready, taken out of the queue. · A block made known: its record laid into the map. · A block behind the others that wait; the first one is gone if there are too many. · What waited for what is known by now: made known, one after the other. · What waited for what is known by now: made known, one after the other: the contract. · One more block for a tree. -/
import Derived.Test.YtdoeoncmhaihbaaTrK
import Derived.Test.YtdoeoncmhaihbaaTRB
import Derived.Test.YtdoeoncmhaihbaaRegV
namespace Go.Proofs.Ytdoeoncmhaihbaa
set_option maxRecDepth 100000
open Go.RowKit

theorem zBlk1 : ∀ u ∈ (Value.agg #[.int .i64 0, .int .i64 0, .int .i64 0, .int .i64 0, .slice none 0 0]).cells, u.oneCell' = true := by
  intro u hu
  have : u ∈ #[Value.int .i64 0, .int .i64 0, .int .i64 0, .int .i64 0, .slice none 0 0] := hu
  simp at this
  rcases this with rfl | rfl <;> rfl
set_option maxRecDepth 100000 in
set_option maxHeartbeats 3200000 in
theorem Delete_blk {w : World} {g n cap i : Nat} {b : Int} {cs : List Value} (hB0 : Blk w g 59 cs) (hsz0 : cs.length = cap * 5) (hi0 : i < n) (hn : n ≤ 100) (hnc : n ≤ cap) (hb : b = ((i + 1 : Nat) : Int)) (h10 : ∀ u ∈ cs.take (n * 5), u.oneCell' = true) :
    Calls Try.prog 69 #[.slice (some ⟨g, 0, none⟩) n cap, .int .i64 (i : Nat), .int .i64 b] w fun e w' => e = .returned (.slice (some ⟨g, 0, none⟩) (n - 1) cap) ∧ Mod (fun k => k = g) w w' ∧
      ∃ cs', Blk w' g 59 cs' ∧ cs'.length = cap * 5 ∧ cs'.take ((n - 1) * 5) = cs.take (i * 5) ++ (cs.drop ((i + 1) * 5)).take ((n - (i + 1)) * 5) := by
  refine calls_keep ?_
  subst hb
  obtain ⟨j, hj⟩ : ∃ j, j = i + 1 := ⟨_, rfl⟩
  rw [← hj]
  obtain ⟨r, hr⟩ : ∃ r, r = n - 1 := ⟨_, rfl⟩
  rw [← hr]
  have hB := hide_ hB0
  have hg := hB0.lt
  have t1 : ((i : Int) == (j : Int)) = false := by rw [beq_eq_false_iff_ne]; omega
  have hij := hide_ (show i ≤ j from by omega)
  have hjn := hide_ (show j ≤ n from by omega)
  have hic := hide_ (show i ≤ cap from by omega)
  have hnc' := hide_ hnc
  have hr1 := hide_ (show i + (n - j) = r from by omega)
  have hrn := hide_ (show r ≤ n from by omega)
  obtain ⟨news, hnews⟩ : ∃ news, news = (cs.drop (j * 5)).take ((n - j) * 5) := ⟨_, rfl⟩
  have hnl0 : news.length = (n - j) * 5 := by rw [hnews, List.length_take, List.length_drop]; omega
  have hnl := hide_ hnl0
  obtain ⟨A, hA0, hsrc0⟩ : ∃ A : Addr, (Value.slice (if cap = j then some (⟨g, 0, none⟩ : Addr) else (some (⟨g, 0, none⟩ : Addr)).map (·.add (j * 5))) (n - j) (cap - j) = .slice (some A) (n - j) (cap - j)) ∧ ∀ w', Blk w' g 59 cs → ∀ q u, news[q]? = some u → w'.cell? (A.add q) = some u := by
    by_cases h : cap = j
    · refine ⟨⟨g, 0, none⟩, by rw [if_pos h], fun w' _ q u hq => ?_⟩
      have : news = [] := List.eq_nil_of_length_eq_zero (by omega)
      rw [this] at hq; simp at hq
    · refine ⟨⟨g, j * 5, none⟩, by rw [if_neg h]; simp only [Option.map_some, addr_add_off, Nat.zero_add], fun w' hw q u hq => ?_⟩
      rw [addr_add_off]
      refine hw.cell ?_
      have hql := (List.getElem?_eq_some_iff.1 hq).1
      rw [hnews, List.getElem?_take_of_lt (by omega), List.getElem?_drop] at hq
      exact hq
  have hA := hide_ hA0
  have hsrc := hide_ hsrc0
  have h1 := hide_ (show ∀ u ∈ news, u.oneCell' = true from fun u hu => by
    rw [hnews] at hu
    obtain ⟨q, hq, rfl⟩ := List.getElem_of_mem hu
    refine h10 _ ?_
    rw [List.getElem_take, List.getElem_drop]
    simp at hq
    have hlt : j * 5 + q < (cs.take (n * 5)).length := by rw [List.length_take]; omega
    have := List.getElem_mem hlt
    rwa [List.getElem_take] at this)
  have hroom := hide_ (show i + (n - j) ≤ cap from by omega)
  have hsz := hide_ (show cap * 5 ≤ cs.length from by omega)
  obtain ⟨cs1, hcs1⟩ : ∃ cs1, cs1 = cs.take (i * 5) ++ news ++ cs.drop (i * 5 + news.length) := ⟨_, rfl⟩
  have hcs1' := hide_ hcs1.symm
  have hl1 : cs1.length = cap * 5 := by rw [hcs1]; simp; omega
  have hv := hide_ (show (Value.slice (if cap = r then some (⟨g, 0, none⟩ : Addr) else (some (⟨g, 0, none⟩ : Addr)).map (·.add (r * 5))) (n - r) (cap - r) = .slice (some ⟨g, r * 5, none⟩) 1 (cap - r)) from by
    rw [if_neg (by omega), show n - r = 1 from by omega]
    simp only [Option.map_some, addr_add_off, Nat.zero_add])
  have hoff := hide_ (show r * 5 + 5 ≤ cs1.length from by omega)
  have hfin := hide_ (show ∀ z : List Value, z.length = 5 → (cs1.take (r * 5) ++ z ++ cs1.drop (r * 5 + 5)).length = cap * 5 ∧ (cs1.take (r * 5) ++ z ++ cs1.drop (r * 5 + 5)).take (r * 5) = cs.take (i * 5) ++ (cs.drop (j * 5)).take ((n - j) * 5) from fun z hz => by
    refine ⟨by simp; omega, ?_⟩
    have e1 : (cs1.take (r * 5)).length = r * 5 := by simp; omega
    rw [List.append_assoc, List.take_left' e1, ← hnews, hcs1]
    have e2 : (cs.take (i * 5) ++ news).length = r * 5 := by simp; omega
    rw [List.take_left' e2])
  obtain ⟨v13, hv130⟩ : ∃ v13, (Value.slice (if n = i then some (⟨g, 0, none⟩ : Addr) else (some (⟨g, 0, none⟩ : Addr)).map (·.add (i * 5))) (j - i) (n - i) = v13) := ⟨_, rfl⟩
  have hv13 := hide_ hv130
  clear hB0 hsz0 hi0 h10 hA0 hsrc0 hnews hnl0 hcs1 hl1 hr hj hnc hv130
  go_enter Try.func69, Try.ntmps69
  go_wp2_with ((first
    | (refine w_slice Try.enBlk.elS _ _ _ _ v13 rfl rfl rfl (bounds_all hij.out hjn.out hnc'.out) hv13.out ?_)
    | fail) <;> (try simp only [Act.put, List.setIfInBounds_toArray, List.set_cons_zero, List.set_cons_succ]))
  refine wp_region_phx (by kernel_rfl) ?_; intro wd hxd
  refine Ph.gate 0 6 (by kernel_rfl) ?_
  refine LinL.step (s := (.val (.slice (some ⟨g, 0, none⟩) n cap))) [(0, none)] rfl (by kernel_rfl) (op_out 0 (.slice (some ⟨g, 0, none⟩) n cap) rfl (.inl rfl) rfl) ?_
  refine LinL.step (s := (.val (.int .i64 (i : Nat)))) [(1, none)] rfl (by kernel_rfl) (op_out 1 (.int .i64 (i : Nat)) rfl (.inl rfl) rfl) ?_
  refine LinL.step (s := (.val (.slice (some ⟨g, 0, none⟩) i cap))) [(20, some 1), (21, some 0)] rfl (by kernel_rfl) (op_runs rfl fun σ w' hx hg => ⟨_, runs_sto (ρ := σ.eval) (w := w') Try.enBlk.elS (.tmp 20) (.tmp 21) rfl hg.1 hg.2.1 hic.out, rfl⟩) ?_
  refine LinL.step (s := (.val (.slice (some ⟨g, 0, none⟩) n cap))) [(0, none)] rfl (by kernel_rfl) (op_out 0 (.slice (some ⟨g, 0, none⟩) n cap) rfl (.inl rfl) rfl) ?_
  refine LinL.step (s := (.val (.int .i64 (j : Nat)))) [(2, none)] rfl (by kernel_rfl) (op_out 2 (.int .i64 (j : Nat)) rfl (.inl rfl) rfl) ?_
  refine LinL.step (s := (.val (.slice (some A) (n - j) (cap - j)))) [(23, some 1), (24, some 0)] rfl (by kernel_rfl) (op_runs rfl fun σ w' hx hg => ⟨_, runs_sfrom (ρ := σ.eval) (w := w') Try.enBlk.elS (.tmp 23) (.tmp 24) rfl hg.1 hg.2.1 hjn.out hA.out, rfl⟩) ?_
  intro wN hxN
  simp only [Fin', List.reverse_cons, List.reverse_nil, List.nil_append, List.cons_append, List.drop_zero, List.take_succ_cons, List.take_zero]
  simp only [Act.put, List.setIfInBounds_toArray, List.set_cons_zero, List.set_cons_succ]
  have hBN := hide_ (hB.out.ext (hxd.trans hxN))
  refine wpOp_of_list rfl ?_
  refine w_appRoom Try.enBlk.elS _ _ (i := i) (m := n - j) (cap := cap) (c := cap - j) (A := A) (news := news) (cs := cs) rfl rfl rfl rfl hnl.out (hsrc.out _ hBN.out) h1.out hroom.out hBN.out hsz.out ?_
  intro w1 hm1 hB1
  rw [hr1.out]
  rw [hcs1'.out] at hB1
  replace hm1 := (((hxd.trans hxN).mod fun k => k = g).trans hm1 fun _ _ h => h)
  simp only [Act.put, List.setIfInBounds_toArray]
  show Ph Try.prog _ _ 7 _ _
  refine Ph.rest 7 1 (by kernel_rfl) ?_
  refine LinL.step (s := (.val (.slice (some ⟨g, 0, none⟩) r cap))) [(26, none)] rfl (by kernel_rfl) (op_out 26 (.slice (some ⟨g, 0, none⟩) r cap) rfl (.inr rfl) rfl) ?_
  intro w2 hx2
  simp only [Fin', List.reverse_cons, List.reverse_nil, List.nil_append, List.drop_succ_cons, List.drop_zero, List.take_succ_cons, List.take_zero]
  simp only [Act.put]
  replace hB1 := hide_ (hB1.ext hx2)
  replace hm1 := hm1.trans (hx2.mod fun k => k = g) fun _ _ h => h
  clear hxd hxN hx2 hBN
  go_wp2_with ((first
    | (refine w_slice Try.enBlk.elS _ _ _ _ _ rfl rfl rfl (bounds_cut hrn.out hnc'.out) hv.out ?_)
    | (refine w_clear1 Try.enBlk _ rfl rfl rfl rfl zBlk1 hB1.out hoff.out ?_; intro w3 hm3 hB3; replace hm1 := hm1.trans hm3 fun _ _ h => h; clear hm3 hB1)
    | fail) <;> (try simp only [Act.put, List.setIfInBounds_toArray, List.set_cons_zero, List.set_cons_succ]))
  go_ret
  exact Keep.intro ⟨rfl, hm1, _, hB3, hfin.out _ rfl⟩
end Go.Proofs.Ytdoeoncmhaihbaa
namespace Go.Proofs.Ytdoeoncmhaihbaa
set_option maxRecDepth 100000
open Go.RowKit

/-- The first one that is ready. -/
def PickI (K V : List BlkD) (r : Int) : Prop := (r = -1 ∧ TrS.pick K V = none) ∨ ∃ (i : Nat) (x : BlkD), r = (i : Int) ∧ V[i]? = some x ∧ TrS.pick K V = some (x, V.eraseIdx i)
theorem pick_no {K : List BlkD} : ∀ {V : List BlkD}, (∀ x ∈ V, TrS.ready K x = false) → TrS.pick K V = none
  | [], _ => rfl
  | x :: V, h => by
    have h1 := h x (List.mem_cons_self ..)
    rw [TrS.pick, h1]
    simp only [Bool.false_eq_true, if_false]
    rw [pick_no fun y hy => h y (List.mem_cons_of_mem _ hy)]; rfl
theorem pick_at {K : List BlkD} : ∀ {V : List BlkD} {i : Nat} {x : BlkD}, V[i]? = some x → TrS.ready K x = true → (∀ y ∈ V.take i, TrS.ready K y = false) → TrS.pick K V = some (x, V.eraseIdx i)
  | [], i, x, h, _, _ => by simp at h
  | y :: V, 0, x, h, hr, _ => by
    simp at h; subst h
    rw [TrS.pick, if_pos hr]; rfl
  | y :: V, i + 1, x, h, hr, hn => by
    have h1 := hn y (by simp)
    rw [TrS.pick, h1]
    simp only [Bool.false_eq_true, if_false]
    rw [pick_at (i := i) (by simpa using h) hr fun z hz => hn z (by simp [hz])]; rfl

set_option maxRecDepth 100000 in
set_option maxHeartbeats 3200000 in
theorem IndexFunc_any {G : Nat → Prop} {w : World} {p : Nat} {K V U : List BlkD} {X : Nat → Prop} {v : Value} (h0 : TrW G w p K U) (hr0 : Recs 5 (QR X) w v V) (hfew : V.length ≤ 17) :
    Calls Try.prog 79 #[v, .func (.func 53) #[.pointer (some ⟨p, 0, none⟩)] #[]] w fun e w' => ∃ r : Int, e = .returned (.int .i64 r) ∧ PickI K V r ∧ Ext w w' := by
  refine calls_keep ?_
  replace h0 := hide_ h0
  have hr := hide_ hr0
  clear hr0
  go_enter Try.func79, Try.ntmps79
  go_wp2_with ((first
    | ((with_reducible refine at_bi ?_); refine w_rlen Try.enBlk.elS _ rfl rfl rfl hr.out ?_)
    | fail) <;> (try simp only [Act.put, List.setIfInBounds_toArray, List.set_cons_zero, List.set_cons_succ]))
  go_loopw [8] (fun i wr => ∃ k : Nat, i = .int .i64 k ∧ k ≤ V.length ∧ Hid (∀ y ∈ V.take k, TrS.ready K y = false) ∧ Ext w wr) (fun i _ => V.length - (RowKit.intOf i).toNat)
  case atStart => exact ⟨0, rfl, Nat.zero_le _, hide_ (by simp), Ext.refl _⟩
  case round =>
    obtain ⟨k, rfl, hk, hnt, hX⟩ := hrel
    by_cases hge : V.length ≤ k
    · obtain rfl : k = V.length := by omega
      have t2 : decide (V.length < V.length) = false := by simp
      rw [List.take_length] at hnt
      have hp := hide_ (pick_no hnt.out)
      clear hge
      go_wp2
      go_ret
      exact Keep.intro ⟨-1, rfl, .inl ⟨rfl, hp.out⟩, hX⟩
    have hlt : k < V.length := by omega
    have t2 : decide (k < V.length) = true := by simpa using hlt
    obtain ⟨d, hd0⟩ : ∃ d, V[k]? = some d := ⟨_, List.getElem?_eq_getElem hlt⟩
    have e0 : V.take (k + 1) = V.take k ++ [d] := by rw [List.take_add_one, hd0]; rfl
    have hlt' := hide_ hlt
    have hd := hide_ hd0
    cases q1 : TrS.ready K d
    · have hnt2 := hide_ (show ∀ y ∈ V.take (k + 1), TrS.ready K y = false from by
        rw [e0]
        intro y hy
        rcases List.mem_append.1 hy with hy | hy
        · exact hnt.out y hy
        · simp at hy; subst hy; exact q1)
      have q1' := hide_ q1
      clear hge hlt hd0 e0 hnt q1
      go_wp2_with ((first
        | (go_at_call 53; refine (ready_any (d := d) (u := u) (h0.out.ext hX) hpar.out).mono ?_; rintro e w4 ⟨rfl, hx⟩; rw [q1'.out]; replace hX := hX.trans hx; clear hx)
        | (refine w_qidx Try.enBlk.elS _ _ k rfl rfl rfl rfl hr.out hX hd.out ?_; intro pa u hrow htx; have hpar := hide_ htx.2.1.par; replace hrow := hide_ hrow; clear htx)
        | ((with_reducible refine at_load ?_); refine w_pload Try.stBlk _ rfl rfl rfl hrow.out rfl ?_)
        | fail) <;> (try simp only [Act.put, List.setIfInBounds_toArray, List.set_cons_zero, List.set_cons_succ]))
      go_roundw
      case rel => exact ⟨k + 1, by go_num, hlt'.out, hnt2, hX⟩
      case measure => have := hlt'.out; simp [RowKit.intOf]; omega
    · have hp := hide_ (pick_at hd0 q1 hnt.out)
      have q1' := hide_ q1
      clear hge hlt hd0 e0 hnt q1
      go_wp2_with ((first
        | (go_at_call 53; refine (ready_any (d := d) (u := u) (h0.out.ext hX) hpar.out).mono ?_; rintro e w4 ⟨rfl, hx⟩; rw [q1'.out]; replace hX := hX.trans hx; clear hx)
        | (refine w_qidx Try.enBlk.elS _ _ k rfl rfl rfl rfl hr.out hX hd.out ?_; intro pa u hrow htx; have hpar := hide_ htx.2.1.par; replace hrow := hide_ hrow; clear htx)
        | ((with_reducible refine at_load ?_); refine w_pload Try.stBlk _ rfl rfl rfl hrow.out rfl ?_)
        | fail) <;> (try simp only [Act.put, List.setIfInBounds_toArray, List.set_cons_zero, List.set_cons_succ]))
      go_ret
      exact Keep.intro ⟨(k : Nat), rfl, .inr ⟨k, d, rfl, hd.out, hp.out⟩, hX⟩
end Go.Proofs.Ytdoeoncmhaihbaa
namespace Go.Proofs.Ytdoeoncmhaihbaa
set_option maxRecDepth 100000
open Go.RowKit

theorem TrC.toW {X : Nat → Prop} {w : World} {p g : Nat} {v : Value} {K V : List BlkD} (h : TrC X w p g v K V) (hX : ∀ k, X k → k < w.heap.size) : TrW (fun _ => True) w p K V := ⟨X, g, v, h, fun k hk => ⟨trivial, hX k hk⟩, trivial, trivial, fun _ _ => trivial⟩
theorem TrC.lts {X : Nat → Prop} {w : World} {p g : Nat} {v : Value} {K V : List BlkD} (h : TrC X w p g v K V) : p < w.heap.size ∧ g < w.heap.size ∧ ∀ k, v.ownBlock = some k → k < w.heap.size := by
  obtain ⟨n, D, us, _, h2, _⟩ := h.map
  obtain ⟨vs, _, k2, _⟩ := h.que
  exact ⟨h.obj.lt, h2.lt, fun k hk => k2.lt hk⟩
theorem zip_erase {α β γ : Type} (f : α → β → γ) {l : List α} {us : List β} (h : us.length = l.length) (i : Nat) : ((l.zip us).map fun x => f x.1 x.2).eraseIdx i = (((l.eraseIdx i).zip (us.eraseIdx i)).map fun x => f x.1 x.2) := by
  rw [List.eraseIdx_eq_take_drop_succ, List.eraseIdx_eq_take_drop_succ, List.eraseIdx_eq_take_drop_succ, List.zip_append (by simp [h]), List.map_append, ← List.map_take, ← List.map_drop]
  simp only [List.zip, List.take_zipWith, List.drop_zipWith]
/-- The tree behind a change of its queue. -/
theorem TrC.renew {X : Nat → Prop} {w w' : World} {p g : Nat} {v v' : Value} {K V V' : List BlkD} (h : TrC X w p g v K V) (hX : ∀ k, X k → k < w.heap.size) (hm : Mod (fun k => k = p ∨ v.ownBlock = some k) w w') (f : Fs w' p [.map (some g), v'])
    (q : ∃ us : List Value, us.length = V'.length ∧ RowN (fun k => v'.ownBlock = some k) w' 59 5 v' ((V'.zip us).map fun x => bRow x.1 x.2) ∧ ∀ x ∈ V'.zip us, TxX X w' x.2 x.1)
    (hv : ∀ k, v'.ownBlock = some k → v.ownBlock = some k ∨ w.heap.size ≤ k) (fit : Fit8 K V') : TrC X w' p g v' K V' := by
  obtain ⟨n, D, us, h1, h2, h3, h4, h5⟩ := h.map
  obtain ⟨s1, s2, s3, s4⟩ := h.sep
  have l := h.lts
  have hXF : ∀ k, X k → ¬ (k = p ∨ v.ownBlock = some k) := fun k hk hf => hf.elim (fun e => s2 (e ▸ hk)) fun e => (s4 k e).1 hk
  refine ⟨f, ⟨n, D, us, h1, ownsMap_mod h2 hm (fun hf => hf.elim (fun e => s1 e.symm) fun e => (s4 g e).2.2 rfl), h3, h4, fun x hx => (h5 x hx).mod hm hXF⟩, q, ⟨s1, s2, s3, fun k hk => ?_⟩, fit⟩
  rcases hv k hk with e | e
  · exact s4 k e
  · exact ⟨fun hx => by have := hX k hx; omega, by omega, by omega⟩
theorem Fit8.sub {K V V' : List BlkD} (h : Fit8 K V) (hs : V'.Sublist V) : Fit8 K V' := by
  refine ⟨fun b hb => ?_, ?_, h.stood, Nat.le_trans hs.length_le h.few, h.room⟩
  · rcases List.mem_append.1 hb with hb | hb
    · exact h.right b (List.mem_append_left _ hb)
    · exact h.right b (List.mem_append_right _ (hs.subset hb))
  · exact h.nodup.sublist ((List.Sublist.append_left hs K).map _)
/-- What an owned queue is. -/
theorem que_blk {w : World} {v : Value} {V : List BlkD} {us : List Value} (hl : us.length = V.length) (h : RowN (fun k => v.ownBlock = some k) w 59 5 v ((V.zip us).map fun x => bRow x.1 x.2)) (hn : V ≠ []) :
    ∃ g cap cs, v = .slice (some ⟨g, 0, none⟩) V.length cap ∧ Blk w g 59 cs ∧ cs.length = cap * 5 ∧ V.length ≤ cap ∧ cap ≤ maxLen ∧ cs.take (V.length * 5) = ((V.zip us).map fun x => bRow x.1 x.2).flatten := by
  have hlen : ((V.zip us).map fun x => bRow x.1 x.2).length = V.length := by simp [hl]
  obtain ⟨h0, hn0 | ⟨g, cap, cur, hv, _, hh, r1, r2, r3, r4⟩⟩ := h.own
  · rw [hlen] at hn0
    exact absurd (List.eq_nil_of_length_eq_zero hn0.2) hn
  · rw [hlen] at hv r1 r4
    exact ⟨g, cap, cur.toList, hv, hh, by simpa using r3, r1, r2, r4⟩
theorem row_len {V : List BlkD} {us : List Value} : ∀ row ∈ ((V.zip us).map fun x => bRow x.1 x.2), row.length = 5 := fun row h => by
  obtain ⟨x, _, rfl⟩ := List.mem_map.1 h; rfl

theorem que_of {w : World} {g cap n : Nat} {cs : List Value} {V : List BlkD} {us : List Value} (hB : Blk w g 59 cs) (hcl : cs.length = cap * 5) (hn : V.length ≤ cap) (hcm : cap ≤ maxLen) (hl : us.length = V.length) (he : n = V.length)
    (ht : cs.take (n * 5) = ((V.zip us).map fun x => bRow x.1 x.2).flatten) : RowN (fun k => (Value.slice (some ⟨g, 0, none⟩) n cap).ownBlock = some k) w 59 5 (.slice (some ⟨g, 0, none⟩) n cap) ((V.zip us).map fun x => bRow x.1 x.2) := by
  subst he
  have hlen : ((V.zip us).map fun x => bRow x.1 x.2).length = V.length := by simp [hl]
  refine ⟨⟨flat_len row_len, .inr ⟨g, cap, cs.toArray, by rw [hlen], Nat.zero_le _, hB, by omega, hcm, by simpa using hcl, by rw [hlen]; exact ht⟩⟩, row_len, fun k hk => hk⟩
/-- The queue without one of its blocks. -/
theorem que_take {w' : World} {g cap i : Nat} {cs cs' : List Value} {V : List BlkD} {us : List Value} (hl : us.length = V.length) (hi : i < V.length) (hn : V.length ≤ cap) (hcm : cap ≤ maxLen) (hct : cs.take (V.length * 5) = ((V.zip us).map fun x => bRow x.1 x.2).flatten)
    (hB : Blk w' g 59 cs') (hcl : cs'.length = cap * 5) (ht : cs'.take ((V.length - 1) * 5) = cs.take (i * 5) ++ (cs.drop ((i + 1) * 5)).take ((V.length - (i + 1)) * 5)) :
    (us.eraseIdx i).length = (V.eraseIdx i).length ∧ RowN (fun k => (Value.slice (some ⟨g, 0, none⟩) (V.length - 1) cap).ownBlock = some k) w' 59 5 (.slice (some ⟨g, 0, none⟩) (V.length - 1) cap) (((V.eraseIdx i).zip (us.eraseIdx i)).map fun x => bRow x.1 x.2) := by
  have e1 : (V.eraseIdx i).length = V.length - 1 := List.length_eraseIdx_of_lt hi
  have e2 : (us.eraseIdx i).length = V.length - 1 := by rw [List.length_eraseIdx_of_lt (by omega), hl]
  refine ⟨by omega, que_of hB hcl (by omega) hcm (by omega) e1.symm ?_⟩
  rw [ht, ← zip_erase _ hl, List.eraseIdx_eq_take_drop_succ, List.flatten_append, ← flat_take row_len, ← flat_drop row_len, ← hct]
  congr 1
  · rw [List.take_take, Nat.min_eq_left (by omega)]
  · rw [List.drop_take, Nat.sub_mul]

set_option maxRecDepth 100000 in
set_option maxHeartbeats 3200000 in
theorem take_none {X : Nat → Prop} {w : World} {p g : Nat} {v : Value} {K V : List BlkD} (h0 : TrC X w p g v K V) (hX0 : ∀ k, X k → k < w.heap.size) (hp : TrS.pick K V = none) :
    Calls Try.prog 71 #[.pointer (some ⟨p, 1, none⟩), .func (.func 53) #[.pointer (some ⟨p, 0, none⟩)] #[]] w fun e w' => e = .returned (.tuple #[.agg (bRow BlkD.zero (.slice none 0 0)).toArray, .bool false]) ∧ Ext w w' := by
  refine calls_keep ?_
  have f1 := h0.obj
  have hW := hide_ (h0.toW hX0)
  have hr := hide_ h0.recs
  have hfew := hide_ h0.fit.few
  replace hp := hide_ hp
  clear h0 hX0
  go_enter Try.func71, Try.ntmps71
  have hz1 : ∀ u ∈ bRow BlkD.zero (.slice none 0 0), u.oneCell' = true := blk_one rfl
  have tok1 : True := trivial
  go_wp2_with ((first
    | (go_at_call 79; refine (IndexFunc_any (hW.out.ext hX) (hr.out.ext (QR.stays X) hX) hfew.out).mono ?_; rintro e w4 ⟨r, rfl, hpk, hx⟩; obtain rfl : r = -1 := (hpk.elim (fun h => h.1) (fun ⟨i, x, _, _, h⟩ => by rw [hp.out] at h; cases h)); replace f4 := f4.ext hx; replace f1 := f1.ext hx; replace hX := hX.trans hx; clear hx hpk)
    | ((with_reducible refine at_alloc ?_); have _t := tok1; refine w_alloc Try.stBlk rfl rfl ?_; intro g4 w1 hg4 hX f4; replace f1 := f1.ext hX; clear tok1)
    | ((with_reducible refine at_alloc ?_); refine w_alloc Try.stBlk rfl rfl ?_; intro g7 w2 hg7 hx f7; replace f4 := f4.ext hx; replace f1 := f1.ext hx; replace hX := hX.trans hx; clear hx)
    | ((with_reducible refine at_store ?_); refine w_astore Try.stBlk _ _ (us := bRow BlkD.zero (.slice none 0 0)) rfl rfl rfl rfl rfl f4 rfl rfl hz1 ?_; intro w3 hm3 f3; replace f4 : Fs w3 g4 (bRow BlkD.zero (.slice none 0 0)) := f3; replace hX := hm3.after hX (fun i hi => by subst hi; exact hg4); clear hm3 f3)
    | ((with_reducible refine at_load ?_); refine w_aload Try.stBlk _ rfl rfl rfl f7 rfl ?_)
    | ((try refine w_yes _ _ _ rfl rfl rfl ?_); refine w_fieldO Try.stQue _ _ _ _ rfl rfl rfl (by omega) ?_)
    | ((with_reducible refine at_load ?_); refine w_fload _ rfl rfl rfl f1 rfl (agg_of (by kernel_rfl)) ?_)
    | fail) <;> (try simp only [Act.put, List.setIfInBounds_toArray, List.set_cons_zero, List.set_cons_succ]))
  exact bodyPost_ret (ret_two Try.stBlk rfl rfl rfl f4 rfl) rfl (Keep.intro ⟨rfl, hX⟩)

set_option maxRecDepth 100000 in
set_option maxHeartbeats 6400000 in
theorem take_some {X : Nat → Prop} {w : World} {p g : Nat} {v : Value} {K V r : List BlkD} {x : BlkD} (h0 : TrC X w p g v K V) (hX0 : ∀ k, X k → k < w.heap.size) (hp : TrS.pick K V = some (x, r)) :
    Calls Try.prog 71 #[.pointer (some ⟨p, 1, none⟩), .func (.func 53) #[.pointer (some ⟨p, 0, none⟩)] #[]] w fun e w' => ∃ (u v' : Value), e = .returned (.tuple #[.agg (bRow x u).toArray, .bool true]) ∧ TrC X w' p g v' K r ∧ TxX X w' u x ∧
      (∀ k, v'.ownBlock = some k → v.ownBlock = some k) ∧ Mod (fun k => k = p ∨ v.ownBlock = some k) w w' := by
  refine calls_keep ?_
  have f1 := h0.obj
  have hW := hide_ (h0.toW hX0)
  have hr := hide_ h0.recs
  have hfew := hide_ h0.fit.few
  obtain ⟨us, hus, hrow, htxs⟩ := h0.que
  have hVne : V ≠ [] := fun e => by subst e; simp [TrS.pick] at hp
  obtain ⟨gq, cap, cs, rfl, hB, hcl, hVc, hcm, hct⟩ := que_blk hus hrow hVne
  have hfit := hide_ h0.fit
  have hl := hide_ h0.lts
  have hsep := h0.sep
  have hgqp := hide_ (hsep.2.2.2 gq rfl).2.1
  have hgq := hide_ (h0.lts.2.2 gq rfl)
  have hct' := hide_ hct
  have h10 := hide_ (show ∀ u ∈ cs.take (V.length * 5), u.oneCell' = true from by
    rw [hct]
    intro u hu
    obtain ⟨row, hrw, hu⟩ := List.mem_flatten.1 hu
    obtain ⟨q, hq, rfl⟩ := List.mem_map.1 hrw
    exact blk_one ((htxs q hq).1.one') u hu)
  have hall := hide_ h0
  have hall2 := hide_ hX0
  have hus' := hide_ hus
  have htxs' := hide_ htxs
  replace hB := hide_ hB
  replace hcl := hide_ hcl
  have hn17 := hide_ (show V.length ≤ 100 from by have := h0.fit.few; omega)
  have hVc' := hide_ hVc
  have hcm' := hide_ hcm
  have hXq := hide_ (fun k hk (e : k = gq) => (h0.sep.2.2.2 gq rfl).1 (e ▸ hk) : ∀ k, X k → ¬ k = gq)
  have hXp := hide_ (fun k hk (e : k = p) => h0.sep.2.1 (e ▸ hk) : ∀ k, X k → ¬ k = p)
  replace hp := hide_ hp
  clear h0 hX0 hrow hVne hsep hct htxs hus hVc hcm
  go_enter Try.func71, Try.ntmps71
  have tok1 : True := trivial
  go_wp2_with ((first
    | (go_at_call 79; refine (IndexFunc_any (hW.out.ext hX) (hr.out.ext (QR.stays X) hX) hfew.out).mono ?_; rintro e w4 ⟨ri, rfl, hpk, hx⟩; obtain ⟨i, x', rfl, hi0, hpx⟩ := (hpk.resolve_left fun h => by rw [hp.out] at h; cases h.2); rw [hp.out] at hpx; injection hpx with hpx; injection hpx with hxx hrr; subst hxx; have hib : i ≤ 17 := (by have := (List.getElem?_eq_some_iff.1 hi0).1; have := hfew.out; omega); have hilt := hide_ (List.getElem?_eq_some_iff.1 hi0).1; replace hi0 := hide_ hi0; replace hrr := hide_ hrr; replace f4 := f4.ext hx; replace f1 := f1.ext hx; replace hX := hX.trans hx; clear hx hpk)
    | ((with_reducible refine at_alloc ?_); have _t := tok1; refine w_alloc Try.stBlk rfl rfl ?_; intro g4 w1 hg4 hX f4; replace f1 := f1.ext hX; have hg4' := hide_ f4.lt; clear tok1)
    | (go_at_call 69; refine (Delete_blk (cs := cs) (i := i) (b := (i : Int) + 1) (hB.out.ext hX) hcl.out hilt.out hn17.out hVc'.out (by omega) h10.out).mono ?_; rintro e w5 ⟨rfl, hmD, cs', hB', hcl', htk⟩; have hM := ((hX.mod fun k => k = p ∨ k = gq).trans hmD fun _ _ h => .inr h); replace f1 := f1.mod hmD (fun e => hgqp.out e.symm); replace f4 := f4.mod hmD (fun e => by have := hgq.out; omega); replace f8 := f8.mod hmD (fun e => by have := hgq.out; omega); replace htx := hide_ (htx.out.mod hmD hXq.out); clear hmD hX)
    | (refine w_qidx Try.enBlk.elS _ _ i rfl rfl rfl rfl hr.out hX hi0.out ?_; intro pa u hrow htx; have hone := hide_ (blk_one (a := x.slot) (b := x.miner) (c := x.var) (d := x.parent) htx.1.one'); replace hrow := hide_ hrow; replace htx := hide_ htx)
    | ((with_reducible refine at_load ?_); refine w_pload Try.stBlk _ rfl rfl rfl hrow.out rfl ?_)
    | ((with_reducible refine at_alloc ?_); refine w_alloc Try.stBlk rfl rfl ?_; intro g8 w2 hg8 hx8 f8; have hne48 := hide_ (Nat.lt_of_lt_of_le f4.lt hg8); replace hg8 := Nat.le_trans hX.size hg8; replace f4 := f4.ext hx8; replace f1 := f1.ext hx8; replace hX := hX.trans hx8; replace htx := hide_ (htx.out.ext hx8); clear hx8 hrow)
    | ((with_reducible refine at_store ?_); refine w_astore Try.stBlk _ _ (us := bRow x u) rfl rfl rfl rfl rfl f8 rfl rfl hone.out ?_; intro w3 hm3 f3; replace f8 : Fs w3 g8 (bRow x u) := f3; have hx3 := hm3.after hX (fun i hi => by subst hi; exact hg8); replace f1 := f1.mod hm3 (fun e => by have := hl.out.1; omega); replace f4 := f4.mod hm3 (fun e => by have := hne48.out; omega); replace htx := hide_ (htx.out.mod hm3 (fun k hk e => by have := hall2.out k hk; omega)); replace hX := hx3; clear hm3 f3 hx3)
    | ((with_reducible refine at_load ?_); refine w_aload Try.stBlk _ rfl rfl rfl f8 rfl ?_)
    | ((with_reducible refine at_store ?_); refine w_fstore _ _ rfl rfl rfl rfl rfl f1 (by simp) rfl rfl (by kernel_rfl) ?_; intro w6 hm6 f6; replace f1 : Fs w6 p [.map (some g), .slice (some ⟨gq, 0, none⟩) (V.length - 1) cap] := f6; replace hM := hM.trans hm6 (fun _ _ h => .inl h); replace f4 := f4.mod hm6 (fun e => by have := hl.out.1; omega); replace f8 := f8.mod hm6 (fun e => by have := hl.out.1; omega); replace htx := hide_ (htx.out.mod hm6 hXp.out); replace hB' := hB'.mod hm6 hgqp.out; clear hm6 f6)
    | ((with_reducible refine at_store ?_); refine w_astore Try.stBlk _ _ (us := bRow x u) rfl rfl rfl rfl rfl f4 rfl rfl hone.out ?_; intro w7 hm7 f7; replace f4 : Fs w7 g4 (bRow x u) := f7; replace hM := (hM.trans hm7 (fun k hk h => by have := h; omega)); replace f1 := f1.mod hm7 (fun e => by have := hl.out.1; omega); replace htx := hide_ (htx.out.mod hm7 (fun k hk e => by have := hall2.out k hk; omega)); replace hB' := hB'.mod hm7 (fun e => by have := hgq.out; omega); clear hm7 f7)
    | ((try refine w_yes _ _ _ rfl rfl rfl ?_); refine w_fieldO Try.stQue _ _ _ _ rfl rfl rfl (by omega) ?_)
    | ((with_reducible refine at_load ?_); refine w_fload _ rfl rfl rfl f1 rfl (agg_of (by kernel_rfl)) ?_)
    | fail) <;> (try simp only [Act.put, List.setIfInBounds_toArray, List.set_cons_zero, List.set_cons_succ]))
  obtain ⟨hq1, hq2⟩ := que_take hus'.out hilt.out hVc'.out hcm'.out hct'.out hB' hcl' htk
  have hM2 : Mod (fun k => k = p ∨ (Value.slice (some ⟨gq, 0, none⟩) V.length cap).ownBlock = some k) w _ := hM.mono fun k _ h => h.elim .inl fun e => .inr (by rw [e]; rfl)
  have hsub : (V.eraseIdx i).Sublist V := List.eraseIdx_sublist ..
  refine bodyPost_ret (ret_two Try.stBlk rfl rfl rfl f4 rfl) rfl (Keep.intro ⟨u, .slice (some ⟨gq, 0, none⟩) (V.length - 1) cap, rfl, ?_, htx.out, fun k hk => hk, hM2⟩)
  rw [hrr.out]
  have hz := zip_erase (fun (a : BlkD) (b : Value) => (a, b)) hus'.out i
  have hid : (fun x : BlkD × Value => (x.1, x.2)) = id := rfl
  rw [hid, List.map_id, List.map_id] at hz
  exact hall.out.renew hall2.out hM2 f1 ⟨_, hq1, hq2, fun y hy => by
    rw [← hz] at hy
    exact (htxs'.out y (List.mem_of_mem_eraseIdx hy)).mod hM fun k hk hf => hf.elim (hXp.out k hk) (hXq.out k hk)⟩ (fun k hk => .inl hk) (hfit.out.sub hsub)
end Go.Proofs.Ytdoeoncmhaihbaa
namespace Go.Proofs.Ytdoeoncmhaihbaa
set_option maxRecDepth 100000
open Go.RowKit

theorem run_kbuild (a b c d : Int) (u : Value) (h : Int) (w : World) : (Instr.build 83 #[(0, .agg #[.int .i64 a, .int .i64 b, .int .i64 c, .int .i64 d, u]), (1, .int .i64 h)]).run Try.prog w = .ok (.agg #[.int .i64 a, .int .i64 b, .int .i64 c, .int .i64 d, u, .int .i64 h]) w := by
  unfold Instr.build
  simp [run_underlying Try.underlying83, Try.sizeOf59, Try.sizeOf3, Instr.fill, Value.cells]
theorem runs_kbuild {o : Oper} {ρ : Operand → Value} {w : World} (x y : Operand) {b : BlkD} {u : Value} {h : Int} (ho : o.op = .build 83 #[(0, x), (1, y)]) (hx : ρ x = .agg #[.int .i64 b.slot, .int .i64 b.miner, .int .i64 b.var, .int .i64 b.parent, u]) (hy : ρ y = .int .i64 h) : Runs Try.prog o ρ w (kVal b u h) := by
  have hr := run_kbuild b.slot b.miner b.var b.parent u h w
  unfold Runs execOp kVal
  simp [ho, hx, hy, hr]
theorem ownsMap_tight {w : World} {P : Program} {k : TypeId} {R : Value → Option (DataW Value × List MemPlace)} {b n : Nat} {D : DataW Value} (h : w.ownsMap P k R b n D) : w.ownsMap P k R b (Maps.size D) D := by
  obtain ⟨es, clock, hb, F, hs, rfl⟩ := h
  refine ⟨es, clock, hb, F, ?_, rfl⟩
  rw [Maps.size_eq, length_sorted, List.length_map]; simp
section
variable {ops : Array Oper} {rest : List Oper} {o : Oper} {a : Act} {Q : Exit → Act → World → Prop} {w : World}
/-- m[n] = v, n not there. -/
theorem w_mput (m x y : Operand) {g k : Nat} {n : Int} {v : Value} {D : DataW Value} (hgd : o.guard = none) (hd : o.dst = none) (ho : o.op = Op.mapUpdate 74 m x y) (hm : a.eval m = .map (some g)) (hx : a.eval x = .int .i64 n) (hy : a.eval y = v) (hn : -9223372036854775808 ≤ n ∧ n ≤ 9223372036854775807)
    (h : w.ownsMap Try.prog 3 tok g k D) (hk : k ≤ 1000)
    (K : ∀ w', w'.ownsMap Try.prog 3 tok g (k + 1) (D.put (.int .i64 n) (.held v)) → Mod (fun k => k = g) w w' → wpList Try.prog ops Q rest a w') : wpList Try.prog ops Q (o :: rest) a w := by
  have hwf : (Lit.int .i64 n).wf = true := by simp [Lit.wf, IntKind.min, IntKind.max, IntKind.signed, IntKind.bits]; omega
  refine wpList_mapUpdate_own w hgd m x y _ ho 3 83 (Maps.int_keyed Try.underlying3) Try.underlying74 tok g k D hm h (by unfold maxLen; omega) _ v _ hx hy (Maps.keyOf_int_mk Try.underlying3 hwf) (.held v) [] rfl ?_
  intro w' h1 h2
  rw [hd]
  exact K w' h1 ⟨h2.os, h2.tape, h2.output, h2.size, fun k hk hn => h2.block k hk fun e => hn (Option.some.inj e)⟩
end
theorem height_mono {K K' : List BlkD} (h : TrS.Uq K) (h' : TrS.Uq K') (hs : TrS.Stood K) (hk : ∀ x ∈ K, x ∈ K') {c : BlkD} (hc : c ∈ K) : TrS.height K' c.name = TrS.height K c.name := by
  have h0 := (h.right c hc).name0
  unfold TrS.height
  rw [if_neg h0, if_neg h0, h.get hc, h'.get (hk c hc), h.path_mono h' hs hk c hc]
theorem height_new {K : List BlkD} {b : BlkD} (h : TrS.Uq K) (hs : TrS.Stood K) (h' : TrS.Uq (K ++ [b])) (hs' : TrS.Stood (K ++ [b])) (hr : TrS.ready K b = true) : TrS.height (K ++ [b]) b.name = TrS.height K b.parent + 1 := by
  have e := h'.height hs' (b := b) (by simp)
  have e2 : TrS.height (K ++ [b]) b.parent = TrS.height K b.parent := by
    rcases TrS.ready_iff.1 hr with h0 | ⟨c, hc, hn⟩
    · rw [h0, TrS.height_zero, TrS.height_zero]
    · rw [← hn]; exact height_mono h h' hs (fun x hx => List.mem_append_left _ hx) hc
  omega
theorem BlkD.Right.i64 {b : BlkD} (h : b.Right) : I64 b.name := by
  have hn := h.parts.2.2.2
  rw [h.nm]
  have h1 := h.s
  have h2 := h.m
  have h3 := h.v
  unfold I64 BlkD.nm
  omega
theorem height_lt {K : List BlkD} (n : Int) : -1 ≤ TrS.height K n ∧ TrS.height K n ≤ 4096 := by
  unfold TrS.height
  split
  · omega
  · split
    · omega
    · have := path_len K n; omega

set_option maxRecDepth 100000 in
set_option maxHeartbeats 3200000 in
theorem learn_any {X : Nat → Prop} {w : World} {p g : Nat} {v u : Value} {K V : List BlkD} {b : BlkD} (h0 : TrC X w p g v K V) (hX0 : ∀ k, X k → k < w.heap.size) (ht0 : TxX X w u b) (hfit0 : Fit8 (K ++ [b]) V) (hrd : TrS.ready K b = true) :
    Calls Try.prog 56 #[.pointer (some ⟨p, 0, none⟩), .int .i64 b.name, .agg #[.int .i64 b.slot, .int .i64 b.miner, .int .i64 b.var, .int .i64 b.parent, u]] w fun e w' => e = .returned (.tuple #[]) ∧ TrC X w' p g v (K ++ [b]) V ∧ Mod (fun k => k = g) w w' := by
  refine calls_keep ?_
  have f1 := h0.obj
  have hW := hide_ (h0.toW hX0)
  have hpar := hide_ (show I64 b.parent from ht0.2.1.par)
  have hnm := hide_ (show -9223372036854775808 ≤ b.name ∧ b.name ≤ 9223372036854775807 from (hfit0.right b (by simp)).i64)
  obtain ⟨n, D, us, hn, hown, hus, hF, htx⟩ := h0.map
  have hsz : Maps.size D = K.length := by rw [hF.size]; simp [hus]
  have hown1 := ownsMap_tight hown
  rw [hsz] at hown1
  obtain ⟨h, hh⟩ : ∃ h, TrS.height K b.parent = h := ⟨_, rfl⟩
  have hb1 : -1 ≤ h ∧ h ≤ 4096 := by rw [← hh]; exact height_lt _
  have hh' := hide_ hh
  have hk := hide_ (show K.length ≤ 1000 from by have := h0.fit.room; omega)
  have hgp := hide_ h0.sep.1
  have hXg := hide_ (fun k hk (e : k = g) => h0.sep.2.2.1 (e ▸ hk) : ∀ k, X k → ¬ k = g)
  have hvg := hide_ (fun k hk (e : k = g) => (h0.sep.2.2.2 k hk).2.2 e : ∀ k, v.ownBlock = some k → ¬ k = g)
  have hone := hide_ ht0.1.one'
  have hF2 := hide_ (show MapF (D.put (.int .i64 b.name) (.held (kVal b u (h + 1)))) (((K ++ [b]).zip (us ++ [u])).map fun x => (x.1.name, kVal x.1 x.2 (TrS.height (K ++ [b]) x.1.name))) from by
    have e1 : ((K ++ [b]).zip (us ++ [u])).map (fun x => (x.1.name, kVal x.1 x.2 (TrS.height (K ++ [b]) x.1.name))) = (K.zip us).map (fun x => (x.1.name, kVal x.1 x.2 (TrS.height K x.1.name))) ++ [(b.name, kVal b u (h + 1))] := by
      rw [List.zip_append hus.symm, List.map_append]
      congr 1
      · apply List.map_congr_left
        intro x hx
        rw [height_mono h0.fit.uq hfit0.uq h0.fit.stood (fun y hy => List.mem_append_left _ hy) (List.of_mem_zip hx).1]
      · simp only [List.zip_cons_cons, List.zip_nil_right, List.map_cons, List.map_nil]
        rw [height_new h0.fit.uq h0.fit.stood hfit0.uq hfit0.stood hrd, hh]
    rw [e1]
    refine hF.put fun q hq => ?_
    obtain ⟨x, hx, rfl⟩ := List.mem_map.1 hq
    intro e
    have hnd := hfit0.nodup
    rw [List.map_append, List.map_append, List.append_assoc, List.nodup_append] at hnd
    exact hnd.2.2 _ (List.mem_map.2 ⟨x.1, (List.of_mem_zip hx).1, rfl⟩) b.name (by simp) e)
  have htx2 := hide_ (show ∀ x ∈ (K ++ [b]).zip (us ++ [u]), TxX X w x.2 x.1 from by
    rw [List.zip_append hus.symm]
    intro x hx
    rcases List.mem_append.1 hx with hx | hx
    · exact htx x hx
    · simp at hx; subst hx; exact ht0)
  have hus2 := hide_ (show (us ++ [u]).length = (K ++ [b]).length from by simp [hus])
  have hK1 := hide_ (show K.length + 1 ≤ 400 from by have := hfit0.room; simpa using this)
  have hfit := hide_ hfit0
  have hall := hide_ h0
  replace hown := hide_ hown1
  clear h0 hX0 ht0 hfit0 hrd hown1 hF htx hsz hn hus hh
  go_enter Try.func56, Try.ntmps56
  go_wp2_with ((first
    | ((with_reducible refine at_box ?_); refine w_box _ (bRow b u) rfl rfl rfl rfl ?_; intro g5 w1 hg5 hX f5; replace f1 := f1.ext hX)
    | fail) <;> (try simp only [Act.put, List.setIfInBounds_toArray, List.set_cons_zero, List.set_cons_succ]))
  refine wp_region_phx (by kernel_rfl) ?_; intro wd hxd; have Hf := f1.ext hxd; have H5 := f5.ext hxd
  refine Ph.gate 0 12 (by kernel_rfl) ?_
  refine LinL.step (s := (.val (.pointer (some ⟨p, 0, none⟩)))) [(0, none)] rfl (by kernel_rfl) (op_out 0 (.pointer (some ⟨p, 0, none⟩)) rfl (.inl rfl) rfl) ?_
  refine LinL.step (s := (.val (.pointer (some ⟨p, 0, none⟩)))) [(6, some 0)] rfl (by kernel_rfl) (op_runs rfl fun σ w' hx hg => ⟨_, runs_nil (ρ := σ.eval) (w := w') (.tmp 6) rfl hg.1, rfl⟩) ?_
  refine LinL.step (s := (.val (.pointer (some ⟨p, 0, none⟩)))) [(7, some 0)] rfl (by kernel_rfl) (op_runs rfl fun σ w' hx hg => ⟨_, runs_field (ρ := σ.eval) (w := w') Try.stTree (.tmp 7) p 0 rfl hg.1 (by omega), rfl⟩) ?_
  refine LinL.step (s := (.val (.map (some g)))) [(8, some 0)] rfl (by kernel_rfl) (op_runs rfl fun σ w' hx hg => ⟨_, runs_fload (ρ := σ.eval) (w := w') (.tmp 8) rfl hg.1 (agg_of (by kernel_rfl) _) (Hf.ext hx) rfl, rfl⟩) ?_
  refine LinL.step (s := (.val (.int .i64 b.name))) [(1, none)] rfl (by kernel_rfl) (op_out 1 (.int .i64 b.name) rfl (.inl rfl) rfl) ?_
  refine LinL.step (s := (.val (.agg #[.int .i64 b.slot, .int .i64 b.miner, .int .i64 b.var, .int .i64 b.parent, u]))) [(5, none)] rfl (by kernel_rfl) (op_runs rfl fun σ w' hx hg => ⟨_, runs_aload (ρ := σ.eval) (w := w') Try.stBlk (.tmp 5) rfl hg.1 (H5.ext hx) rfl, rfl⟩) ?_
  refine LinL.step (s := (.val (.pointer (some ⟨p, 0, none⟩)))) [(0, none)] rfl (by kernel_rfl) (op_out 0 (.pointer (some ⟨p, 0, none⟩)) rfl (.inl rfl) rfl) ?_
  refine LinL.step (s := (.val (.pointer (some ⟨g5, 3, none⟩)))) [(5, none)] rfl (by kernel_rfl) (op_runs rfl fun σ w' hx hg => ⟨_, runs_field (ρ := σ.eval) (w := w') Try.stBlk (.tmp 5) g5 3 rfl hg.1 (by omega), rfl⟩) ?_
  refine LinL.step (s := (.val (.int .i64 b.parent))) [(13, some 0)] rfl (by kernel_rfl) (op_runs rfl fun σ w' hx hg => ⟨_, runs_fload (ρ := σ.eval) (w := w') (.tmp 13) rfl hg.1 (agg_of (by kernel_rfl) _) (H5.ext hx) rfl, rfl⟩) ?_
  refine LinL.step (s := (.val (.int .i64 h))) [(12, some 2), (14, some 0)] rfl (by kernel_rfl) (op_calls 70 #[(.tmp 12), (.tmp 14)] #[46, 3] (fun σ => #[.pointer (some ⟨p, 0, none⟩), .int .i64 b.parent]) rfl rfl (fun _ _ => rfl) fun σ w' hx hg => ⟨by have h9 : σ.tmps.getD 12 undef = .pointer (some ⟨p, 0, none⟩) := hg.1; have h19 : σ.tmps.getD 14 undef = .int .i64 b.parent := hg.2.1; simp only [List.map_toArray, List.map_cons, List.map_nil, Act.eval, h9, h19], (Height_any (n := b.parent) (hW.out.ext ((hX.trans hxd).trans hx)) hpar.out).mono fun e w'' hq => ⟨_, hq.1, hq.2, by rw [hh'.out]; rfl⟩⟩) ?_
  refine LinL.step (s := (.val (.int .i64 (h + 1)))) [(15, some 0)] rfl (by kernel_rfl) (op_runs rfl fun σ w' hx hg => ⟨_, runs_add (ρ := σ.eval) (w := w') (.tmp 15) (.const (.int .i64 1)) (h + 1) rfl (by omega) rfl hg.1 rfl, rfl⟩) ?_
  refine LinL.step (s := (.val (kVal b u (h + 1)))) [(11, some 5), (16, some 0)] rfl (by kernel_rfl) (op_runs rfl fun σ w' hx hg => ⟨_, runs_kbuild (ρ := σ.eval) (w := w') (.tmp 11) (.tmp 16) rfl hg.1 hg.2.1, rfl⟩) ?_
  intro wN hxN
  simp only [Fin', List.reverse_cons, List.reverse_nil, List.nil_append, List.cons_append, List.drop_zero, List.take_succ_cons, List.take_zero]
  simp only [Act.put, List.setIfInBounds_toArray, List.set_cons_zero, List.set_cons_succ]
  replace hX := hX.trans (hxd.trans hxN)
  refine wpOp_of_list rfl ?_
  refine w_mput _ _ _ rfl rfl rfl rfl rfl rfl hnm.out (ownsMap_ext hown.out hX) hk.out ?_
  intro w4 hown4 hm4
  show Ph Try.prog _ _ 13 _ _
  refine Ph.rest 13 0 (by kernel_rfl) ?_
  intro wN2 hxN2
  simp only [Fin', List.reverse_nil, List.drop_zero, List.drop_succ_cons, List.take_zero]
  replace hm4 := ((hX.mod fun k => k = g).trans hm4 fun _ _ h => h).trans (hxN2.mod fun k => k = g) fun _ _ h => h
  replace hown4 := ownsMap_ext hown4 hxN2
  clear hxd hxN hxN2 Hf H5
  go_wp2
  go_end0
  refine Keep.intro ⟨rfl, ⟨hall.out.obj.mod hm4 hgp.out, ⟨_, _, us ++ [u], hK1.out, hown4, hus2.out, hF2.out, fun x hx => (htx2.out x hx).mod hm4 hXg.out⟩, ?_, hall.out.sep, hfit.out⟩, hm4⟩
  obtain ⟨vs, k1, k2, k3⟩ := hall.out.que
  exact ⟨vs, k1, k2.mod hm4 hvg.out, fun x hx => (k3 x hx).mod hm4 hXg.out⟩
end Go.Proofs.Ytdoeoncmhaihbaa
namespace Go.Proofs.Ytdoeoncmhaihbaa
set_option maxRecDepth 100000
open Go.RowKit

section
variable {P : Program} {ops : Array Oper} {rest : List Oper} {o : Oper} {a : Act} {Q : Exit → Act → World → Prop} {w : World} {v : Value} {listed : Array Bool} {i : Nat}
theorem w_mvH (x : Operand) (hgd : o.guard = none) (ho : o.op = .move x ∨ o.op = .assign x) (hv : a.eval x = v) (k : wpList P ops Q rest (a.put o.dst v) w) : wpList P ops Q (o :: rest) a w := by
  refine wpList_runs hgd ?_ k
  unfold Runs execOp
  rcases ho with ho | ho <;> simp [ho, hv]
theorem w_nilH (x : Operand) {A : Addr} (hgd : o.guard = none) (ho : o.op = .nilCheck x) (hv : a.eval x = .pointer (some A)) (k : wpList P ops Q rest (a.put o.dst (.pointer (some A))) w) : wpList P ops Q (o :: rest) a w :=
  wpList_runs hgd (runs_nil x ho hv) k
theorem deps_ofH (ho : ops[i]? = some o) (h : ∀ j ∈ deps o, listed[j]? = some true) (j : Nat) (hb : ((ops[i]?).map fun o => (deps o).contains j).getD false = true) : listed[j]? = some true := by
  rw [ho] at hb
  exact h j (by simpa using hb)
theorem later_ofH (h : ∀ (k : Nat) (ok : Oper), ops[k]? = some ok → i ∈ deps ok → listed[k]? = some false) (k : Nat) (hb : ((ops[k]?).map fun o => (deps o).contains i).getD false = true) : ¬ listed[k]? = some true := by
  intro hl
  cases hk : ops[k]? with
  | none => rw [hk] at hb; cases hb
  | some ok =>
    rw [hk] at hb
    rw [h k ok hk (by simpa using hb)] at hl; cases hl
end
theorem not_listedH (m j : Nat) : ¬ (Array.replicate m false)[j]? = some true := by
  rw [Array.getElem?_replicate]; split <;> simp

/-- What the call may write to by then: the queue's block, and what is new. -/
def F46 (W0 : World) (v : Value) (k : Nat) : Prop := v.ownBlock = some k ∨ W0.heap.size ≤ k
structure I46 (W0 : World) (p g4 : Nat) (m v : Value) (row : List Value) (rows : List (List Value)) (w : World) (s : Nat → Value) (L : Nat → Prop) : Prop where
  md : Mod (fun k => k = p ∨ v.ownBlock = some k) W0 w
  o0 : s 0 = .pointer (some ⟨p, 1, none⟩)
  o2 : s 2 = .int .i64 16
  o4 : s 4 = .pointer (some ⟨g4, 0, none⟩)
  f4 : Fs w g4 row
  c0 : L 0 → s 6 = .pointer (some ⟨p, 1, none⟩)
  c1 : L 1 → s 7 = .pointer (some ⟨p, 1, none⟩)
  c2 : L 2 → s 8 = .pointer (some ⟨p, 1, none⟩)
  c3 : L 3 → s 9 = .pointer (some ⟨p, 1, none⟩)
  c4 : L 4 → s 10 = v
  c5 : L 5 → s 11 = .agg row.toArray
  c8 : L 8 → s 14 = .pointer (some ⟨p, 1, none⟩)
  c9 : L 9 → s 15 = .pointer (some ⟨p, 1, none⟩)
  c6 : L 6 → ¬ L 7 → SlS w (s 12) 5 [row]
  q0 : ¬ L 7 → RowN (F46 W0 v) w 59 5 v rows
  q7 : L 7 → ¬ L 10 → RowN (F46 W0 v) w 59 5 (s 13) (rows ++ [row])
  fp : ¬ L 10 → Fs w p [m, v]
  fin : L 10 → ∃ v', Fs w p [m, v'] ∧ RowN (F46 W0 v) w 59 5 v' (rows ++ [row])
  z : L 10 → L 7
section
variable {W0 w w1 : World} {m v : Value} {p g4 : Nat} {row : List Value} {rows : List (List Value)} {s : Nat → Value} {L : Nat → Prop} {x : Value}
theorem I46.s0 (h : I46 W0 p g4 m v row rows w s L) (he : Ext w w1) (hv : x = .pointer (some ⟨p, 1, none⟩)) : I46 W0 p g4 m v row rows w1 (fun t => if t = 6 then x else s t) (fun j => j = 0 ∨ L j) := by
  exact ⟨h.md.trans (he.mod fun _ => False) fun _ _ hf => hf.elim, by simpa using h.o0, by simpa using h.o2, by simpa using h.o4, h.f4.ext he, fun _ => by simpa using hv, fun hl => by simpa using h.c1 (by simpa using hl), fun hl => by simpa using h.c2 (by simpa using hl), fun hl => by simpa using h.c3 (by simpa using hl), fun hl => by simpa using h.c4 (by simpa using hl), fun hl => by simpa using h.c5 (by simpa using hl), fun hl => by simpa using h.c8 (by simpa using hl), fun hl => by simpa using h.c9 (by simpa using hl), fun hl hn => by simpa using (h.c6 (by simpa using hl) (by simpa using hn)).ext he, fun hn => (h.q0 (by simpa using hn)).ext he, fun hl hn => by simpa using (h.q7 (by simpa using hl) (by simpa using hn)).ext he, fun hn => (h.fp (by simpa using hn)).ext he, fun hl => by obtain ⟨v', h1, h2⟩ := h.fin (by simpa using hl); exact ⟨v', h1.ext he, h2.ext he⟩, fun hl => .inr (h.z (by simpa using hl))⟩
theorem I46.s1 (h : I46 W0 p g4 m v row rows w s L) (he : Ext w w1) (hv : x = .pointer (some ⟨p, 1, none⟩)) : I46 W0 p g4 m v row rows w1 (fun t => if t = 7 then x else s t) (fun j => j = 1 ∨ L j) := by
  exact ⟨h.md.trans (he.mod fun _ => False) fun _ _ hf => hf.elim, by simpa using h.o0, by simpa using h.o2, by simpa using h.o4, h.f4.ext he, fun hl => by simpa using h.c0 (by simpa using hl), fun _ => by simpa using hv, fun hl => by simpa using h.c2 (by simpa using hl), fun hl => by simpa using h.c3 (by simpa using hl), fun hl => by simpa using h.c4 (by simpa using hl), fun hl => by simpa using h.c5 (by simpa using hl), fun hl => by simpa using h.c8 (by simpa using hl), fun hl => by simpa using h.c9 (by simpa using hl), fun hl hn => by simpa using (h.c6 (by simpa using hl) (by simpa using hn)).ext he, fun hn => (h.q0 (by simpa using hn)).ext he, fun hl hn => by simpa using (h.q7 (by simpa using hl) (by simpa using hn)).ext he, fun hn => (h.fp (by simpa using hn)).ext he, fun hl => by obtain ⟨v', h1, h2⟩ := h.fin (by simpa using hl); exact ⟨v', h1.ext he, h2.ext he⟩, fun hl => .inr (h.z (by simpa using hl))⟩
theorem I46.s2 (h : I46 W0 p g4 m v row rows w s L) (he : Ext w w1) (hv : x = .pointer (some ⟨p, 1, none⟩)) : I46 W0 p g4 m v row rows w1 (fun t => if t = 8 then x else s t) (fun j => j = 2 ∨ L j) := by
  exact ⟨h.md.trans (he.mod fun _ => False) fun _ _ hf => hf.elim, by simpa using h.o0, by simpa using h.o2, by simpa using h.o4, h.f4.ext he, fun hl => by simpa using h.c0 (by simpa using hl), fun hl => by simpa using h.c1 (by simpa using hl), fun _ => by simpa using hv, fun hl => by simpa using h.c3 (by simpa using hl), fun hl => by simpa using h.c4 (by simpa using hl), fun hl => by simpa using h.c5 (by simpa using hl), fun hl => by simpa using h.c8 (by simpa using hl), fun hl => by simpa using h.c9 (by simpa using hl), fun hl hn => by simpa using (h.c6 (by simpa using hl) (by simpa using hn)).ext he, fun hn => (h.q0 (by simpa using hn)).ext he, fun hl hn => by simpa using (h.q7 (by simpa using hl) (by simpa using hn)).ext he, fun hn => (h.fp (by simpa using hn)).ext he, fun hl => by obtain ⟨v', h1, h2⟩ := h.fin (by simpa using hl); exact ⟨v', h1.ext he, h2.ext he⟩, fun hl => .inr (h.z (by simpa using hl))⟩
theorem I46.s3 (h : I46 W0 p g4 m v row rows w s L) (he : Ext w w1) (hv : x = .pointer (some ⟨p, 1, none⟩)) : I46 W0 p g4 m v row rows w1 (fun t => if t = 9 then x else s t) (fun j => j = 3 ∨ L j) := by
  exact ⟨h.md.trans (he.mod fun _ => False) fun _ _ hf => hf.elim, by simpa using h.o0, by simpa using h.o2, by simpa using h.o4, h.f4.ext he, fun hl => by simpa using h.c0 (by simpa using hl), fun hl => by simpa using h.c1 (by simpa using hl), fun hl => by simpa using h.c2 (by simpa using hl), fun _ => by simpa using hv, fun hl => by simpa using h.c4 (by simpa using hl), fun hl => by simpa using h.c5 (by simpa using hl), fun hl => by simpa using h.c8 (by simpa using hl), fun hl => by simpa using h.c9 (by simpa using hl), fun hl hn => by simpa using (h.c6 (by simpa using hl) (by simpa using hn)).ext he, fun hn => (h.q0 (by simpa using hn)).ext he, fun hl hn => by simpa using (h.q7 (by simpa using hl) (by simpa using hn)).ext he, fun hn => (h.fp (by simpa using hn)).ext he, fun hl => by obtain ⟨v', h1, h2⟩ := h.fin (by simpa using hl); exact ⟨v', h1.ext he, h2.ext he⟩, fun hl => .inr (h.z (by simpa using hl))⟩
theorem I46.s4 (h : I46 W0 p g4 m v row rows w s L) (he : Ext w w1) (hv : x = v) : I46 W0 p g4 m v row rows w1 (fun t => if t = 10 then x else s t) (fun j => j = 4 ∨ L j) := by
  exact ⟨h.md.trans (he.mod fun _ => False) fun _ _ hf => hf.elim, by simpa using h.o0, by simpa using h.o2, by simpa using h.o4, h.f4.ext he, fun hl => by simpa using h.c0 (by simpa using hl), fun hl => by simpa using h.c1 (by simpa using hl), fun hl => by simpa using h.c2 (by simpa using hl), fun hl => by simpa using h.c3 (by simpa using hl), fun _ => by simpa using hv, fun hl => by simpa using h.c5 (by simpa using hl), fun hl => by simpa using h.c8 (by simpa using hl), fun hl => by simpa using h.c9 (by simpa using hl), fun hl hn => by simpa using (h.c6 (by simpa using hl) (by simpa using hn)).ext he, fun hn => (h.q0 (by simpa using hn)).ext he, fun hl hn => by simpa using (h.q7 (by simpa using hl) (by simpa using hn)).ext he, fun hn => (h.fp (by simpa using hn)).ext he, fun hl => by obtain ⟨v', h1, h2⟩ := h.fin (by simpa using hl); exact ⟨v', h1.ext he, h2.ext he⟩, fun hl => .inr (h.z (by simpa using hl))⟩
theorem I46.s5 (h : I46 W0 p g4 m v row rows w s L) (he : Ext w w1) (hv : x = .agg row.toArray) : I46 W0 p g4 m v row rows w1 (fun t => if t = 11 then x else s t) (fun j => j = 5 ∨ L j) := by
  exact ⟨h.md.trans (he.mod fun _ => False) fun _ _ hf => hf.elim, by simpa using h.o0, by simpa using h.o2, by simpa using h.o4, h.f4.ext he, fun hl => by simpa using h.c0 (by simpa using hl), fun hl => by simpa using h.c1 (by simpa using hl), fun hl => by simpa using h.c2 (by simpa using hl), fun hl => by simpa using h.c3 (by simpa using hl), fun hl => by simpa using h.c4 (by simpa using hl), fun _ => by simpa using hv, fun hl => by simpa using h.c8 (by simpa using hl), fun hl => by simpa using h.c9 (by simpa using hl), fun hl hn => by simpa using (h.c6 (by simpa using hl) (by simpa using hn)).ext he, fun hn => (h.q0 (by simpa using hn)).ext he, fun hl hn => by simpa using (h.q7 (by simpa using hl) (by simpa using hn)).ext he, fun hn => (h.fp (by simpa using hn)).ext he, fun hl => by obtain ⟨v', h1, h2⟩ := h.fin (by simpa using hl); exact ⟨v', h1.ext he, h2.ext he⟩, fun hl => .inr (h.z (by simpa using hl))⟩
theorem I46.s6 (h : I46 W0 p g4 m v row rows w s L) (he : Ext w w1) (hv : SlS w1 x 5 [row]) : I46 W0 p g4 m v row rows w1 (fun t => if t = 12 then x else s t) (fun j => j = 6 ∨ L j) := by
  exact ⟨h.md.trans (he.mod fun _ => False) fun _ _ hf => hf.elim, by simpa using h.o0, by simpa using h.o2, by simpa using h.o4, h.f4.ext he, fun hl => by simpa using h.c0 (by simpa using hl), fun hl => by simpa using h.c1 (by simpa using hl), fun hl => by simpa using h.c2 (by simpa using hl), fun hl => by simpa using h.c3 (by simpa using hl), fun hl => by simpa using h.c4 (by simpa using hl), fun hl => by simpa using h.c5 (by simpa using hl), fun hl => by simpa using h.c8 (by simpa using hl), fun hl => by simpa using h.c9 (by simpa using hl), fun _ _ => by simpa using hv, fun hn => (h.q0 (by simpa using hn)).ext he, fun hl hn => by simpa using (h.q7 (by simpa using hl) (by simpa using hn)).ext he, fun hn => (h.fp (by simpa using hn)).ext he, fun hl => by obtain ⟨v', h1, h2⟩ := h.fin (by simpa using hl); exact ⟨v', h1.ext he, h2.ext he⟩, fun hl => .inr (h.z (by simpa using hl))⟩
theorem I46.s7 (h : I46 W0 p g4 m v row rows w s L) (hm : Mod (F46 W0 v) w w1) (hp : ¬ F46 W0 v p) (h4 : ¬ F46 W0 v g4) (n10 : ¬ L 10) (hv : RowN (F46 W0 v) w1 59 5 x (rows ++ [row])) : I46 W0 p g4 m v row rows w1 (fun t => if t = 13 then x else s t) (fun j => j = 7 ∨ L j) := by
  exact ⟨h.md.trans hm fun k hk hf => hf.elim .inr fun e => by omega, by simpa using h.o0, by simpa using h.o2, by simpa using h.o4, h.f4.mod hm h4, fun hl => by simpa using h.c0 (by simpa using hl), fun hl => by simpa using h.c1 (by simpa using hl), fun hl => by simpa using h.c2 (by simpa using hl), fun hl => by simpa using h.c3 (by simpa using hl), fun hl => by simpa using h.c4 (by simpa using hl), fun hl => by simpa using h.c5 (by simpa using hl), fun hl => by simpa using h.c8 (by simpa using hl), fun hl => by simpa using h.c9 (by simpa using hl), fun _ hn => absurd (Or.inl rfl) hn, fun hn => absurd (Or.inl rfl) hn, fun _ _ => by simpa using hv, fun hn => (h.fp (by simpa using hn)).mod hm hp, fun hl => absurd (by simpa using hl) n10, fun _ => .inl rfl⟩
theorem I46.s8 (h : I46 W0 p g4 m v row rows w s L) (he : Ext w w1) (hv : x = .pointer (some ⟨p, 1, none⟩)) : I46 W0 p g4 m v row rows w1 (fun t => if t = 14 then x else s t) (fun j => j = 8 ∨ L j) := by
  exact ⟨h.md.trans (he.mod fun _ => False) fun _ _ hf => hf.elim, by simpa using h.o0, by simpa using h.o2, by simpa using h.o4, h.f4.ext he, fun hl => by simpa using h.c0 (by simpa using hl), fun hl => by simpa using h.c1 (by simpa using hl), fun hl => by simpa using h.c2 (by simpa using hl), fun hl => by simpa using h.c3 (by simpa using hl), fun hl => by simpa using h.c4 (by simpa using hl), fun hl => by simpa using h.c5 (by simpa using hl), fun _ => by simpa using hv, fun hl => by simpa using h.c9 (by simpa using hl), fun hl hn => by simpa using (h.c6 (by simpa using hl) (by simpa using hn)).ext he, fun hn => (h.q0 (by simpa using hn)).ext he, fun hl hn => by simpa using (h.q7 (by simpa using hl) (by simpa using hn)).ext he, fun hn => (h.fp (by simpa using hn)).ext he, fun hl => by obtain ⟨v', h1, h2⟩ := h.fin (by simpa using hl); exact ⟨v', h1.ext he, h2.ext he⟩, fun hl => .inr (h.z (by simpa using hl))⟩
theorem I46.s9 (h : I46 W0 p g4 m v row rows w s L) (he : Ext w w1) (hv : x = .pointer (some ⟨p, 1, none⟩)) : I46 W0 p g4 m v row rows w1 (fun t => if t = 15 then x else s t) (fun j => j = 9 ∨ L j) := by
  exact ⟨h.md.trans (he.mod fun _ => False) fun _ _ hf => hf.elim, by simpa using h.o0, by simpa using h.o2, by simpa using h.o4, h.f4.ext he, fun hl => by simpa using h.c0 (by simpa using hl), fun hl => by simpa using h.c1 (by simpa using hl), fun hl => by simpa using h.c2 (by simpa using hl), fun hl => by simpa using h.c3 (by simpa using hl), fun hl => by simpa using h.c4 (by simpa using hl), fun hl => by simpa using h.c5 (by simpa using hl), fun hl => by simpa using h.c8 (by simpa using hl), fun _ => by simpa using hv, fun hl hn => by simpa using (h.c6 (by simpa using hl) (by simpa using hn)).ext he, fun hn => (h.q0 (by simpa using hn)).ext he, fun hl hn => by simpa using (h.q7 (by simpa using hl) (by simpa using hn)).ext he, fun hn => (h.fp (by simpa using hn)).ext he, fun hl => by obtain ⟨v', h1, h2⟩ := h.fin (by simpa using hl); exact ⟨v', h1.ext he, h2.ext he⟩, fun hl => .inr (h.z (by simpa using hl))⟩
theorem I46.s10 (h : I46 W0 p g4 m v row rows w s L) (hm : Mod (fun k => k = p) w w1) (hp : ¬ F46 W0 v p) (h4 : ¬ g4 = p) (l7 : L 7) (n10 : ¬ L 10) (hv : Fs w1 p [m, s 13]) : I46 W0 p g4 m v row rows w1 s (fun j => j = 10 ∨ L j) := by
  have hq := (h.q7 l7 n10).mod hm (fun k hk e => hp (e ▸ hk))
  exact ⟨h.md.trans hm fun _ _ e => .inl e, h.o0, h.o2, h.o4, h.f4.mod hm h4, fun hl => h.c0 (by simpa using hl), fun hl => h.c1 (by simpa using hl), fun hl => h.c2 (by simpa using hl), fun hl => h.c3 (by simpa using hl), fun hl => h.c4 (by simpa using hl), fun hl => h.c5 (by simpa using hl), fun hl => h.c8 (by simpa using hl), fun hl => h.c9 (by simpa using hl),
    fun _ hn => absurd (Or.inr l7) hn, fun hn => absurd (Or.inr l7) hn, fun _ hn => absurd (Or.inl rfl) hn, fun hn => absurd (Or.inl rfl) hn, fun _ => ⟨_, hv, hq⟩, fun _ => .inr l7⟩
theorem I46.put {N d i : Nat} {listed : Array Bool} {a : Act} (hd : d < a.tmps.size) (hi : i < listed.size) (hsz : a.tmps.size = N) (hdf : a.defers = [])
    (h : I46 W0 p g4 m v row rows w1 (fun t => if t = d then x else a.tmps.getD t undef) (fun j => j = i ∨ listed[j]? = some true)) :
    (a.put (some d) x).tmps.size = N ∧ (a.put (some d) x).defers = [] ∧ I46 W0 p g4 m v row rows w1 (fun t => (a.put (some d) x).tmps.getD t undef) (fun j => (listed.setIfInBounds i true)[j]? = some true) := by
  refine ⟨by rw [Act.put_size]; exact hsz, by rw [Act.put_defers']; exact hdf, ?_⟩
  rw [put_slots _ _ _ hd, put_listed _ _ hi]; exact h
theorem I46.stay {N i : Nat} {listed : Array Bool} {a : Act} (hi : i < listed.size) (hsz : a.tmps.size = N) (hdf : a.defers = [])
    (h : I46 W0 p g4 m v row rows w1 (fun t => a.tmps.getD t undef) (fun j => j = i ∨ listed[j]? = some true)) :
    a.tmps.size = N ∧ a.defers = [] ∧ I46 W0 p g4 m v row rows w1 (fun t => a.tmps.getD t undef) (fun j => (listed.setIfInBounds i true)[j]? = some true) := by
  refine ⟨hsz, hdf, ?_⟩
  rw [put_listed _ _ hi]; exact h
end

theorem arr_explode {a : Array Value} {n : Nat} (h : a.size = n) : a = ((List.range n).map fun i => a.getD i undef).toArray := by
  apply Array.ext
  · simp [h]
  · intro i h1 h2
    simp [h1]

/-- One more behind those that wait. -/
def pushQ (V : List BlkD) (b : BlkD) : List BlkD := if 16 < (V ++ [b]).length then (V ++ [b]).drop 1 else V ++ [b]
set_option maxRecDepth 100000 in
set_option maxHeartbeats 6400000 in
theorem push_any {X : Nat → Prop} {w : World} {p g : Nat} {v u : Value} {K V : List BlkD} {b : BlkD} (h0 : TrC X w p g v K V) (hX0 : ∀ k, X k → k < w.heap.size) (ht0 : TxX X w u b) (hV : V.length ≤ 16) (hfit0 : Fit8 K (V ++ [b])) :
    Calls Try.prog 54 #[.pointer (some ⟨p, 1, none⟩), .agg #[.int .i64 b.slot, .int .i64 b.miner, .int .i64 b.var, .int .i64 b.parent, u], .int .i64 16] w fun e w' => e = .returned (.tuple #[]) ∧
      ∃ v', TrC X w' p g v' K (pushQ V b) ∧ Mod (fun k => k = p ∨ v.ownBlock = some k) w w' ∧ ∀ k, v'.ownBlock = some k → v.ownBlock = some k ∨ w.heap.size ≤ k := by
  refine calls_keep ?_
  have f1 := h0.obj
  have hl := hide_ h0.lts
  have hpv := hide_ (show ∀ k, v.ownBlock = some k → ¬ k = p from fun k hk => (h0.sep.2.2.2 k hk).2.1)
  obtain ⟨us, hus, hrow, htxs⟩ := h0.que
  have hone := hide_ (blk_one (a := b.slot) (b := b.miner) (c := b.var) (d := b.parent) ht0.1.one')
  have hrl : ((V.zip us).map fun x => bRow x.1 x.2).length = V.length := by simp [hus]
  obtain ⟨rows, hrows⟩ : ∃ rows, (V.zip us).map (fun x => bRow x.1 x.2) = rows := ⟨_, rfl⟩
  rw [hrows] at hrow hrl
  have hbig := hide_ (show (rows.length + [bRow b u].length) * 56 ≤ 140737488355328 from by simp; omega)
  have hrows2 := hide_ (show ((V ++ [b]).zip (us ++ [u])).map (fun x => bRow x.1 x.2) = rows ++ [bRow b u] from by rw [List.zip_append hus.symm, List.map_append, hrows]; rfl)
  have hus2 := hide_ (show (us ++ [u]).length = (V ++ [b]).length from by simp [hus])
  have htx2 := hide_ (show ∀ x ∈ (V ++ [b]).zip (us ++ [u]), TxX X w x.2 x.1 from by
    rw [List.zip_append hus.symm]
    intro x hx
    rcases List.mem_append.1 hx with hx | hx
    · exact htxs x hx
    · simp at hx; subst hx; exact ht0)
  have hXp := hide_ (fun k hk (e : k = p) => h0.sep.2.1 (e ▸ hk) : ∀ k, X k → ¬ k = p)
  have hXv := hide_ (fun k hk (e : v.ownBlock = some k) => (h0.sep.2.2.2 k e).1 hk : ∀ k, X k → ¬ v.ownBlock = some k)
  have hall := hide_ h0
  have hall2 := hide_ hX0
  have hfit := hide_ hfit0
  have hlen : (V ++ [b]).length = V.length + 1 := by simp
  clear h0 hX0 ht0 hfit0 hus htxs hrows hrl
  go_enter Try.func54, Try.ntmps54
  go_wp2_with ((first
    | ((with_reducible refine at_box ?_); refine w_box _ (bRow b u) rfl rfl rfl rfl ?_; intro g4 w1 hg4 hX f4; replace f1 := f1.ext hX; replace hrow := hrow.ext hX)
    | fail) <;> (try simp only [Act.put, List.setIfInBounds_toArray, List.set_cons_zero, List.set_cons_succ]))
  refine wp_region_inv (by kernel_rfl) (by kernel_rfl) ?_
  intro wd hxd
  replace f1 := f1.ext hxd
  replace f4 := f4.ext hxd
  replace hX := hX.trans hxd
  have hrow2 : RowN (F46 wd v) wd 59 5 v rows := (hrow.ext hxd).mono fun k hk => .inl hk
  have hpF : ¬ F46 wd v p := fun h => h.elim (fun e => hpv.out p e rfl) fun e => by have := f1.lt; omega
  have h4F : ¬ F46 wd v g4 := fun h => h.elim (fun e => by have := hl.out.2.2 g4 e; omega) fun e => by have := f4.lt; omega
  have h4p : ¬ g4 = p := fun e => by have := hl.out.1; omega
  refine ⟨fun listed a' w' => a'.tmps.size = 31 ∧ a'.defers = [] ∧ I46 wd p g4 (.map (some g)) v (bRow b u) rows w' (fun t => a'.tmps.getD t undef) (fun j => listed[j]? = some true), ⟨rfl, rfl, ?_⟩, ?_, ?_⟩
  · exact ⟨Mod.refl _ _, rfl, rfl, rfl, f4, fun h => absurd h (not_listedH _ _), fun h => absurd h (not_listedH _ _), fun h => absurd h (not_listedH _ _), fun h => absurd h (not_listedH _ _), fun h => absurd h (not_listedH _ _), fun h => absurd h (not_listedH _ _), fun h => absurd h (not_listedH _ _), fun h => absurd h (not_listedH _ _),
      fun h => absurd h (not_listedH _ _), fun _ => hrow2, fun h => absurd h (not_listedH _ _), fun _ => f1, fun h => absurd h (not_listedH _ _), fun h => absurd h (not_listedH _ _)⟩
  · intro listed a' w' i o hls hinv ho hun hdeps hlater
    obtain ⟨hsz, hdf, h⟩ := hinv
    have hi : i < 11 := (Array.getElem?_eq_some_iff.1 ho).1
    have hls' : listed.size = 11 := hls
    rcases (show i = 0 ∨ i = 1 ∨ i = 2 ∨ i = 3 ∨ i = 4 ∨ i = 5 ∨ i = 6 ∨ i = 7 ∨ i = 8 ∨ i = 9 ∨ i = 10 by omega) with rfl | rfl | rfl | rfl | rfl | rfl | rfl | rfl | rfl | rfl | rfl
    · refine wpOp_of_list rfl ?_
      refine w_mvH _ rfl (.inl rfl) h.o0 ?_
      exact I46.put (by omega) (by omega) hsz hdf (h.s0 (Ext.refl _) rfl)
    · refine wpOp_of_list rfl ?_
      refine w_mvH _ rfl (.inl rfl) h.o0 ?_
      exact I46.put (by omega) (by omega) hsz hdf (h.s1 (Ext.refl _) rfl)
    · have l1 := deps_ofH ho hdeps 1 (by kernel_rfl)
      refine wpOp_of_list rfl ?_
      refine w_nilH _ rfl rfl (h.c1 l1) ?_
      exact I46.put (by omega) (by omega) hsz hdf (h.s2 (Ext.refl _) rfl)
    · have l2 := deps_ofH ho hdeps 2 (by kernel_rfl)
      refine wpOp_of_list rfl ?_
      refine w_fieldO Try.stQue _ p 1 0 rfl rfl (h.c2 l2) (by omega) ?_
      exact I46.put (by omega) (by omega) hsz hdf (h.s3 (Ext.refl _) rfl)
    · have l3 := deps_ofH ho hdeps 3 (by kernel_rfl)
      have n7 := later_ofH hlater 7 (by kernel_rfl)
      refine wpOp_of_list rfl ?_
      refine w_fload _ rfl rfl (h.c3 l3) (h.fp fun hl => n7 (h.z hl)) rfl (agg_of (by kernel_rfl)) ?_
      exact I46.put (by omega) (by omega) hsz hdf (h.s4 (Ext.refl _) rfl)
    · refine wpOp_of_list rfl ?_
      refine w_aload Try.stBlk _ rfl rfl h.o4 h.f4 rfl ?_
      exact I46.put (by omega) (by omega) hsz hdf (h.s5 (Ext.refl _) rfl)
    · have l5 := deps_ofH ho hdeps 5 (by kernel_rfl)
      have e5 : a'.tmps.getD 11 undef = .agg (bRow b u).toArray := h.c5 l5
      refine wpOp_of_list rfl ?_
      refine w_nnew Try.enBlk [bRow b u] rfl rfl (by show [(0, a'.tmps.getD 11 undef)] = _; rw [e5]; rfl) (by intro y hy; simp at hy; subst hy; rfl) rfl (by omega) ?_
      intro vl w1 B hB1 hB2 hx hn
      exact I46.put (by omega) (by omega) hsz hdf (h.s6 hx hn.slS)
    · have l4 := deps_ofH ho hdeps 4 (by kernel_rfl)
      have l6 := deps_ofH ho hdeps 6 (by kernel_rfl)
      have n7 : ¬ listed[7]? = some true := by rw [hun]; simp
      have n10 : ¬ listed[10]? = some true := fun hl => n7 (h.z hl)
      have hs6 := h.c6 l6 n7
      refine wpOp_of_list rfl ?_
      refine w_napp Try.enBlk _ _ rfl rfl (h.c4 l4) rfl (h.q0 n7) hs6 (by simp) (by intro y hy; simp at hy; subst hy; exact hone.out) hbig.out ?_
      intro v9 w1 hm9 hn9
      exact I46.put (by omega) (by omega) hsz hdf (h.s7 hm9 hpF h4F n10 (hn9.mono fun k hk => hk.elim id fun e => .inr (Nat.le_trans h.md.size e.1)))
    · have l0 := deps_ofH ho hdeps 0 (by kernel_rfl)
      refine wpOp_of_list rfl ?_
      refine w_nilH _ rfl rfl (h.c0 l0) ?_
      exact I46.put (by omega) (by omega) hsz hdf (h.s8 (Ext.refl _) rfl)
    · have l8 := deps_ofH ho hdeps 8 (by kernel_rfl)
      refine wpOp_of_list rfl ?_
      refine w_fieldO Try.stQue _ p 1 0 rfl rfl (h.c8 l8) (by omega) ?_
      exact I46.put (by omega) (by omega) hsz hdf (h.s9 (Ext.refl _) rfl)
    · have l7 := deps_ofH ho hdeps 7 (by kernel_rfl)
      have l9 := deps_ofH ho hdeps 9 (by kernel_rfl)
      have n10 : ¬ listed[10]? = some true := by rw [hun]; simp
      obtain ⟨A, c, hv9, _⟩ := (h.q7 l7 n10).slS
      refine wpOp_of_list rfl ?_
      refine w_fstore _ _ rfl rfl rfl (h.c9 l9) rfl (h.fp n10) (by simp) (by show (a'.tmps.getD 13 undef).cells = #[a'.tmps.getD 13 undef]; rw [hv9]; rfl) (by show (a'.tmps.getD 13 undef).oneCell' = true; rw [hv9]; rfl) (by kernel_rfl) ?_
      intro w1 hm1 hf1
      exact I46.stay (by omega) hsz hdf (h.s10 hm1 hpF h4p l7 n10 hf1)
  · intro listed a' w5 hallL hinv
    obtain ⟨hsz, hdf, h⟩ := hinv
    obtain ⟨v5, f5, q5⟩ := h.fin (hallL 10 (by decide))
    obtain ⟨tm, df⟩ := a'
    simp only at hsz hdf h
    subst hdf
    have hM := (hX.mod fun k => k = p ∨ v.ownBlock = some k).trans h.md fun _ _ e => e
    have hv5 := hide_ (show ∀ k, v5.ownBlock = some k → v.ownBlock = some k ∨ w.heap.size ≤ k from fun k hk => (q5.inF k hk).imp_right fun e => Nat.le_trans hX.size e)
    have hT := hall.out.renew (V' := V ++ [b]) hall2.out hM f5 ⟨us ++ [u], hus2.out, by rw [hrows2.out]; exact ⟨q5.own, q5.each, fun k hk => hk⟩, fun x hx => (htx2.out x hx).mod hM fun k hk hf => hf.elim (hXp.out k hk) (hXv.out k hk)⟩ hv5.out hfit.out
    obtain ⟨s1, s3, s5, s6, s7, s8, s9, s10, s11, s12, s13, s14, s15, s16, s17, s18, s19, s20, s21, s22, s23, s24, s25, s26, s27, s28, s29, s30, rfl⟩ : ∃ s1 s3 s5 s6 s7 s8 s9 s10 s11 s12 s13 s14 s15 s16 s17 s18 s19 s20 s21 s22 s23 s24 s25 s26 s27 s28 s29 s30 : Value, tm = #[.pointer (some ⟨p, 1, none⟩), s1, .int .i64 16, s3, .pointer (some ⟨g4, 0, none⟩), s5, s6, s7, s8, s9, s10, s11, s12, s13, s14, s15, s16, s17, s18, s19, s20, s21, s22, s23, s24, s25, s26, s27, s28, s29, s30] := ⟨tm.getD 1 undef, tm.getD 3 undef, tm.getD 5 undef, tm.getD 6 undef, tm.getD 7 undef, tm.getD 8 undef, tm.getD 9 undef, tm.getD 10 undef, tm.getD 11 undef, tm.getD 12 undef, tm.getD 13 undef, tm.getD 14 undef, tm.getD 15 undef, tm.getD 16 undef, tm.getD 17 undef, tm.getD 18 undef, tm.getD 19 undef, tm.getD 20 undef, tm.getD 21 undef, tm.getD 22 undef, tm.getD 23 undef, tm.getD 24 undef, tm.getD 25 undef, tm.getD 26 undef, tm.getD 27 undef, tm.getD 28 undef, tm.getD 29 undef, tm.getD 30 undef, by
        have e := arr_explode hsz
        rw [← h.o0, ← h.o2, ← h.o4]; exact e⟩
    clear h hsz hallL q5
    obtain ⟨V2, hV2⟩ : ∃ V2, V ++ [b] = V2 := ⟨_, rfl⟩
    have hV2' := hide_ hV2
    rw [hV2] at hT hlen
    have hr := hide_ hT.recs
    have hX5 : ∀ k, X k → k < w5.heap.size := fun k hk => Nat.lt_of_lt_of_le (hall2.out k hk) hM.size
    by_cases hc : 16 < V2.length
    · have t1 : decide ((16 : Int) < (V2.length : Int)) = true := decide_eq_true (by omega)
      obtain ⟨us5, hus5, hrow5, htxs5⟩ := hT.que
      obtain ⟨gq, cap, cs, rfl, hB, hcl, hVc, hcm, hct⟩ := que_blk hus5 hrow5 (by intro e; rw [e] at hc; simp at hc)
      have hn17 : V2.length ≤ 100 := by omega
      have h10 := hide_ (show ∀ u ∈ cs.take (V2.length * 5), u.oneCell' = true from by
        rw [hct]
        intro u hu
        obtain ⟨row, hrw, hu⟩ := List.mem_flatten.1 hu
        obtain ⟨q, hq, rfl⟩ := List.mem_map.1 hrw
        exact blk_one ((htxs5 q hq).1.one') u hu)
      have hgqp := hide_ (show ¬ gq = p from (hT.sep.2.2.2 gq rfl).2.1)
      have hXq := hide_ (fun k hk (e : k = gq) => (hT.sep.2.2.2 gq rfl).1 (e ▸ hk) : ∀ k, X k → ¬ k = gq)
      replace hT := hide_ hT
      replace hB := hide_ hB
      replace hcl := hide_ hcl
      replace hn17 := hide_ hn17
      replace hVc := hide_ hVc
      replace hcm := hide_ hcm
      replace hct := hide_ hct
      replace hus5 := hide_ hus5
      replace htxs5 := hide_ htxs5
      have hi0 := hide_ (show 0 < V2.length from by omega)
      have hc' := hide_ hc
      clear hc hlen hV hV2 hrow5 hrow hrow2 f1 f4
      go_wp2_with ((first
        | (go_at_call 69; refine (Delete_blk (cs := cs) (i := 0) (b := 1) hB.out hcl.out hi0.out hn17.out hVc.out rfl h10.out).mono ?_; rintro e w6 ⟨rfl, hmD, cs', hB', hcl', htk⟩; replace f5 := f5.mod hmD (fun e => hgqp.out e.symm))
        | ((with_reducible refine at_bi ?_); refine w_rlen Try.enBlk.elS _ rfl rfl rfl hr.out ?_)
        | ((with_reducible refine at_store ?_); refine w_fstore _ _ rfl rfl rfl rfl rfl f5 (by simp) rfl rfl (by kernel_rfl) ?_; intro w7 hm7 f7; replace f5 : Fs w7 p [.map (some g), .slice (some ⟨gq, 0, none⟩) (V2.length - 1) cap] := f7; replace hmD := (hmD.mono (G := fun k => k = p ∨ k = gq) fun _ _ e => .inr e).trans hm7 (fun _ _ e => .inl e); replace hB' := hB'.mod hm7 hgqp.out; clear hm7 f7)
        | (refine w_fieldO Try.stQue _ _ _ _ rfl rfl rfl (by omega) ?_)
        | ((with_reducible refine at_load ?_); refine w_fload _ rfl rfl rfl f5 rfl (agg_of (by kernel_rfl)) ?_)
        | fail) <;> (try simp only [Act.put, List.setIfInBounds_toArray, List.set_cons_zero, List.set_cons_succ]))
      go_end0
      obtain ⟨hq1, hq2⟩ := que_take hus5.out hi0.out hVc.out hcm.out hct.out hB' hcl' htk
      have hM2 : Mod (fun k => k = p ∨ (Value.slice (some ⟨gq, 0, none⟩) V2.length cap).ownBlock = some k) w5 _ := hmD.mono fun k _ h => h.elim .inl fun e => .inr (by rw [e]; rfl)
      have hz := zip_erase (fun (a : BlkD) (b : Value) => (a, b)) hus5.out 0
      have hid : (fun x : BlkD × Value => (x.1, x.2)) = id := rfl
      rw [hid, List.map_id, List.map_id] at hz
      refine Keep.intro ⟨rfl, .slice (some ⟨gq, 0, none⟩) (V2.length - 1) cap, ?_, hM.trans hM2 fun k hk h => h.elim .inl fun e => (hv5.out k e).elim .inr fun e => by omega, fun k hk => hv5.out k hk⟩
      rw [pushQ, hV2'.out, if_pos hc'.out, show V2.drop 1 = V2.eraseIdx 0 from by rw [List.eraseIdx_zero, List.drop_one]]
      exact hT.out.renew hX5 hM2 f5 ⟨_, hq1, hq2, fun y hy => by
        rw [← hz] at hy
        exact (htxs5.out y (List.mem_of_mem_eraseIdx hy)).mod hmD fun k hk hf => hf.elim (hXp.out k hk) (hXq.out k hk)⟩ (fun k hk => .inl hk) (hT.out.fit.sub (List.eraseIdx_sublist ..))
    · have t1 : decide ((16 : Int) < (V2.length : Int)) = false := decide_eq_false (by omega)
      replace hT := hide_ hT
      have hc' := hide_ hc
      clear hc hlen hV hV2 hrow hrow2 f1 f4
      go_wp2_with ((first
        | ((with_reducible refine at_bi ?_); refine w_rlen Try.enBlk.elS _ rfl rfl rfl hr.out ?_)
        | (refine w_fieldO Try.stQue _ _ _ _ rfl rfl rfl (by omega) ?_)
        | ((with_reducible refine at_load ?_); refine w_fload _ rfl rfl rfl f5 rfl (agg_of (by kernel_rfl)) ?_)
        | fail) <;> (try simp only [Act.put, List.setIfInBounds_toArray, List.set_cons_zero, List.set_cons_succ]))
      go_end0
      exact Keep.intro ⟨rfl, v5, by rw [pushQ, hV2'.out, if_neg hc'.out]; exact hT.out, hM, hv5.out⟩
end Go.Proofs.Ytdoeoncmhaihbaa
namespace Go.Proofs.Ytdoeoncmhaihbaa
set_option maxRecDepth 100000
open Go.RowKit

def NextT (D : List BlkD × List BlkD × List Int) (K V : List BlkD) (o : List Int) : Prop := ∃ f, V.length ≤ f ∧ D = TrS.drain f K V o
def PendT (D : List BlkD × List BlkD × List Int) (K r : List BlkD) (o : List Int) (x : BlkD) : Prop := ∃ f, r.length ≤ f ∧ D = if K.length < 400 then TrS.drain f (K ++ [x]) r (o ++ [x.name]) else TrS.drain f K r o
section
variable {D : List BlkD × List BlkD × List Int} {K V r : List BlkD} {o : List Int} {x : BlkD}
theorem NextT.none (h : NextT D K V o) (hp : TrS.pick K V = none) : D = (K, V, o) := by
  obtain ⟨f, _, rfl⟩ := h
  cases f with
  | zero => rfl
  | succ f => rw [TrS.drain, hp]
theorem pick_len (hp : TrS.pick K V = some (x, r)) : V.length = r.length + 1 := by
  rw [(TrS.pick_some hp).2.length_eq]; rfl
theorem NextT.some (h : NextT D K V o) (hp : TrS.pick K V = some (x, r)) : PendT D K r o x := by
  obtain ⟨f, hf, rfl⟩ := h
  have := pick_len hp
  cases f with
  | zero => omega
  | succ f => exact ⟨f, by omega, by rw [TrS.drain, hp]⟩
theorem PendT.yes (h : PendT D K r o x) (hk : K.length < 400) : NextT D (K ++ [x]) r (o ++ [x.name]) := by
  obtain ⟨f, hf, rfl⟩ := h
  exact ⟨f, hf, if_pos hk⟩
theorem PendT.no (h : PendT D K r o x) (hk : ¬ K.length < 400) : NextT D K r o := by
  obtain ⟨f, hf, rfl⟩ := h
  exact ⟨f, hf, if_neg hk⟩
theorem Fit8.pick (h : Fit8 K V) (hp : TrS.pick K V = some (x, r)) : Fit8 K (x :: r) := by
  have hperm := (TrS.pick_some hp).2
  refine ⟨fun b hb => h.right b ?_, ?_, h.stood, by rw [← hperm.length_eq]; exact h.few, h.room⟩
  · rcases List.mem_append.1 hb with hb | hb
    · exact List.mem_append_left _ hb
    · exact List.mem_append_right _ (hperm.mem_iff.2 hb)
  · exact (((hperm.append_left K).map BlkD.name).nodup_iff).1 h.nodup
theorem Fit8.learn (h : Fit8 K (x :: r)) (hr : TrS.ready K x = true) (hk : K.length < 400) : Fit8 (K ++ [x]) r := by
  have e : K ++ x :: r = (K ++ [x]) ++ r := by simp
  refine ⟨fun b hb => h.right b (by rw [e]; exact hb), by rw [← e]; exact h.nodup, h.stood.snoc hr, Nat.le_trans (by simp) h.few, by simp; omega⟩
theorem Fit8.tl (h : Fit8 K (x :: r)) : Fit8 K r := h.sub (List.sublist_cons_self x r)
end
def qlen (w : World) (p : Nat) : Nat := match w.cell? ⟨p, 1, none⟩ with | some (.slice _ n _) => n | _ => 0
def okn : Value → Nat | .bool true => 1 | _ => 0
theorem TrC.qlen {X : Nat → Prop} {w : World} {p g : Nat} {v : Value} {K V : List BlkD} (h : TrC X w p g v K V) : qlen w p = V.length := by
  obtain ⟨rows, ⟨A, c, rfl, _⟩, hl, _⟩ := h.recs
  unfold Go.Proofs.Ytdoeoncmhaihbaa.qlen
  rw [h.obj.cell (i := 1) rfl]
  exact hl
/-- What may have turned. -/
def F49 (p g : Nat) (v : Value) (k : Nat) : Prop := k = p ∨ k = g ∨ v.ownBlock = some k
/-- How far it is, between two rounds. -/
def At49 (X : Nat → Prop) (D : List BlkD × List BlkD × List Int) (K V : List BlkD) (o : List Int) (cs : List Value) (w : World) (ok : Bool) : Prop :=
  (ok = false ∧ D = (K, V, o)) ∨ (ok = true ∧ ∃ x u, cs = bRow x u ∧ TxX X w u x ∧ PendT D K V o x ∧ Fit8 K (x :: V) ∧ TrS.ready K x = true)
end Go.Proofs.Ytdoeoncmhaihbaa
namespace Go.Proofs.Ytdoeoncmhaihbaa
set_option maxRecDepth 100000
open Go.RowKit

theorem Mod.then_ext {F : Nat → Prop} {a b c : World} (h : Mod F a b) (k : Ext b c) : Mod F a c := h.trans (k.mod fun _ => False) fun _ _ e => e.elim
theorem At49.mod {X F : Nat → Prop} {D : List BlkD × List BlkD × List Int} {K V : List BlkD} {o : List Int} {cs : List Value} {w w' : World} {ok : Bool} (h : At49 X D K V o cs w ok) (hm : Mod F w w') (hX : ∀ k, X k → ¬ F k) : At49 X D K V o cs w' ok :=
  h.imp id fun ⟨h1, x, u, h2, h3, h4⟩ => ⟨h1, x, u, h2, h3.mod hm hX, h4⟩
theorem take_any {X : Nat → Prop} {w : World} {p g : Nat} {v : Value} {K V : List BlkD} {D : List BlkD × List BlkD × List Int} {o : List Int} (h0 : TrC X w p g v K V) (hX0 : ∀ k, X k → k < w.heap.size) (hn : NextT D K V o) :
    Calls Try.prog 71 #[.pointer (some ⟨p, 1, none⟩), .func (.func 53) #[.pointer (some ⟨p, 0, none⟩)] #[]] w fun e w' => ∃ (cs : List Value) (v' : Value) (ok : Bool) (V' : List BlkD), e = .returned (.tuple #[.agg cs.toArray, .bool ok]) ∧ cs.length = 5 ∧ (∀ u ∈ cs, u.oneCell' = true) ∧
      TrC X w' p g v' K V' ∧ At49 X D K V' o cs w' ok ∧ (∀ k, v'.ownBlock = some k → v.ownBlock = some k) ∧ Mod (fun k => k = p ∨ v.ownBlock = some k) w w' ∧ V'.length + okn (.bool ok) = V.length := by
  cases hp : TrS.pick K V with
  | none =>
    refine (take_none h0 hX0 hp).mono ?_
    rintro e w' ⟨rfl, hx⟩
    exact ⟨_, v, false, V, rfl, rfl, blk_one rfl, h0.ext hx, .inl ⟨rfl, hn.none hp⟩, fun _ h => h, hx.mod _, rfl⟩
  | some q =>
    obtain ⟨x, r⟩ := q
    refine (take_some h0 hX0 hp).mono ?_
    rintro e w' ⟨u, v', rfl, hT, htx, hv, hm⟩
    exact ⟨_, v', true, r, rfl, rfl, blk_one htx.1.one', hT, .inr ⟨rfl, x, u, rfl, htx, hn.some hp, h0.fit.pick hp, (TrS.pick_some hp).1⟩, hv, hm, (pick_len hp).symm⟩

set_option maxRecDepth 100000 in
set_option maxHeartbeats 6400000 in
theorem learnReady_any {X : Nat → Prop} {w : World} {p g : Nat} {v : Value} {K V : List BlkD} (h0 : TrC X w p g v K V) (hX00 : ∀ k, X k → k < w.heap.size) :
    Calls Try.prog 57 #[.pointer (some ⟨p, 0, none⟩)] w fun e w' => ∃ (u3 v' : Value), e = .returned u3 ∧ OwnI w.heap.size w' u3 (TrS.drain V.length K V []).2.2 ∧ TrC X w' p g v' (TrS.drain V.length K V []).1 (TrS.drain V.length K V []).2.1 ∧
      (∀ k, v'.ownBlock = some k → v.ownBlock = some k) ∧ Mod (F49 p g v) w w' := by
  refine calls_keep ?_
  obtain ⟨D, hD⟩ : ∃ D, TrS.drain V.length K V [] = D := ⟨_, rfl⟩
  rw [hD]
  have hnx := hide_ (show NextT D K V [] from ⟨V.length, Nat.le_refl _, hD.symm⟩)
  have hT := h0
  have hX0 := hide_ hX00
  have hl := hide_ h0.lts
  have hfew := h0.fit.few
  have hM := Mod.refl (F49 p g v) w
  have hvv := hide_ (fun k (hk : v.ownBlock = some k) => hk)
  have ho := OwnI.nil w.heap.size w
  have f1 := h0.obj
  clear h0 hX00 hD
  go_enter Try.func57, Try.ntmps57
  go_wp2_with ((first
    | (go_at_call 71; refine (take_any hT hX0.out hnx.out).mono ?_; rintro e w5 ⟨cs2, v2, ok, V2, rfl, hcl2, hone2, hT2, hat, hv2, hmT, hlen2⟩; replace hM := hM.trans hmT (fun k hk h => h.elim .inl fun e => .inr (.inr e)); replace hv2 := hide_ hv2; clear hmT hT ho)
    | ((with_reducible refine at_alloc ?_); refine w_alloc Try.stBlk rfl rfl ?_; intro g7 w2 hg2 hx f7; have hg7 := Nat.le_trans hM.size hg2; replace hT2 := hT2.ext hx; replace hat := hat.mod (hx.mod fun _ => False) (fun _ _ => id); replace hM := hM.then_ext hx; clear hx hg2)
    | ((with_reducible refine at_store ?_); refine w_astore Try.stBlk _ _ (us := cs2) rfl rfl rfl rfl rfl f7 rfl hcl2 hone2 ?_; intro w3 hm3 f3; replace f7 : Fs w3 g7 cs2 := f3; replace hT2 := hT2.mod hm3 (fun k hk e => by have := hX0.out k hk; omega) (fun e => by have := hl.out.1; omega) (fun e => by have := hl.out.2.1; omega) (fun k hk e => by have := hl.out.2.2 k (hv2.out k hk); omega); replace hat := hat.mod hm3 (fun k hk e => by have := hX0.out k hk; omega); replace hM := hM.trans hm3 (fun k hk e => by have := e; omega); clear hm3 f3)
    | ((with_reducible refine at_field ?_); refine w_field Try.stTree _ _ _ rfl rfl rfl (by omega) ?_)
    | fail) <;> (try simp only [Act.put, List.setIfInBounds_toArray, List.set_cons_zero, List.set_cons_succ]))
  go_loopw [3, 4, 5] (fun u3 u4 u5 wr => ∃ (K' V' : List BlkD) (o : List Int) (cs : List Value) (v' : Value) (ok : Bool) (g4 : Nat), u4 = .pointer (some ⟨g4, 0, none⟩) ∧ u5 = .bool ok ∧ OwnI w.heap.size wr u3 o ∧ w.heap.size ≤ g4 ∧ (∀ k, u3.ownBlock = some k → ¬ k = g4) ∧ Fs wr g4 cs ∧ TrC X wr p g v' K' V' ∧ At49 X D K' V' o cs wr ok ∧
      Hid (∀ k, v'.ownBlock = some k → v.ownBlock = some k) ∧ Mod (F49 p g v) w wr ∧ o.length + V'.length + okn (.bool ok) ≤ 17) (fun _ _ u5 wr => qlen wr p + okn u5)
  case atStart => exact ⟨K, V2, [], cs2, v2, ok, g7, rfl, rfl, OwnI.nil _ _, hg7, fun k hk => (by cases hk), f7, hT2, hat, hv2, hM, by simp; omega⟩
  case round =>
    clear hM f7 hT2 hat hv2 hcl2 hone2 hlen2 hg7 hnx f1
    obtain ⟨K', V', o, cs, v', ok', g4, rfl, rfl, ho, hg4, hne, f4, hT, hat, hvv', hM, hcnt⟩ := hrel
    rcases hat with ⟨rfl, hDe⟩ | ⟨rfl, x, u, rfl, htx, hpd, hfx, hrx⟩
    · replace hDe := hide_ hDe
      go_wp2
      go_ret
      exact Keep.intro ⟨_, v', rfl, by rw [hDe.out]; exact ho, by rw [hDe.out]; exact hT, hvv'.out, hM⟩
    · by_cases hk : K'.length < 400
      · have hfull := hide_ (show decide (400 ≤ K'.length) = false from decide_eq_false (by omega))
        have hnx := hide_ (hpd.yes hk)
        have hfl := hide_ (hfx.learn hrx hk)
        have hrx' := hide_ hrx
        have hbig := hide_ (show (o.length + [x.name].length) * 8 ≤ 140737488355328 from by simp; omega)
        have hone := hide_ (blk_one (a := x.slot) (b := x.miner) (c := x.var) (d := x.parent) htx.1.one')
        have hpar := hide_ (show I64 x.parent from htx.2.1.par)
        have hql := hide_ hT.qlen
        have hvv := hvv'
        clear hvv'
        clear hpd hfx hrx hk
        go_wp2_with ((first
          | (go_at_call 71; refine (take_any hT (fun k hk => Nat.lt_of_lt_of_le (hX0.out k hk) hM.size) hnx.out).mono ?_; rintro e w5 ⟨cs2, v2, ok, V2, rfl, hcl2, hone2, hT2, hat, hv2, hmT, hlen2⟩; replace hM := hM.trans hmT (fun k hk h => h.elim .inl fun e => .inr (.inr (hvv.out k e))); replace f7 := f7.mod hmT (fun h => h.elim (fun e => by have := hl.out.1; omega) fun e => by have := hl.out.2.2 _ (hvv.out _ e); omega); replace ho := own_mod ho hmT (fun k hk h => by have h1 := (own_block_lt (g := k) ho hk).1; exact h.elim (fun e => by have := hl.out.1; omega) fun e => by have := hl.out.2.2 _ (hvv.out _ e); omega); have hvv2 := hide_ (fun k hk => hvv.out k (hv2 k hk)); clear hmT hv2 hT)
          | (go_at_call 55; refine (full_any (hT.toW (fun k hk => Nat.lt_of_lt_of_le (hX0.out k hk) hM.size))).mono ?_; rintro e w4 ⟨rfl, hx⟩; rw [hfull.out]; replace hT := hT.ext hx; replace htx := htx.ext hx; replace f4 := f4.ext hx; replace ho := own_ext ho hx; replace hM := hM.then_ext hx; clear hx)
          | (go_at_call 51; refine (BName_any (b := x) htx.1 hpar.out).mono ?_; rintro e w4 ⟨rfl, hx⟩; replace hT := hT.ext hx; replace htx := htx.ext hx; replace f4 := f4.ext hx; replace ho := own_ext ho hx; replace hM := hM.then_ext hx; clear hx)
          | (go_at_call 56; refine (learn_any hT (fun k hk => Nat.lt_of_lt_of_le (hX0.out k hk) hM.size) htx hfl.out hrx'.out).mono ?_; rintro e w4 ⟨rfl, hTL, hmL⟩; replace hT := hTL; replace f4 := f4.mod hmL (fun e => by have := hl.out.2.1; omega); replace ho := own_mod ho hmL (fun k hk e => by have h1 := (own_block_lt (g := k) ho hk).1; have := hl.out.2.1; omega); replace hM := hM.trans hmL (fun _ _ e => .inr (.inl e)); clear hmL hTL htx)
          | ((with_reducible refine at_alloc ?_); refine w_alloc Try.stBlk rfl rfl ?_; intro g7 w2 hg2 hx f7; have hg7 := Nat.le_trans hM.size hg2; have hne7 := hide_ (show ∀ k, _ = some k → ¬ k = g7 from fun k hk => Nat.ne_of_lt (Nat.lt_of_lt_of_le (own_block_lt (g := k) ho hk).2 hg2)); replace hT := hT.ext hx; replace ho := own_ext ho hx; replace hM := hM.then_ext hx; clear hx hg2 f4)
          | ((with_reducible refine at_store ?_); refine w_astore Try.stBlk _ _ (us := bRow x u) rfl rfl rfl rfl rfl f7 rfl rfl hone.out ?_; intro w3 hm3 f3; replace f7 : Fs w3 g7 (bRow x u) := f3; replace hT := hT.mod hm3 (fun k hk e => by have := hX0.out k hk; omega) (fun e => by have := hl.out.1; omega) (fun e => by have := hl.out.2.1; omega) (fun k hk e => by have := hl.out.2.2 k (hvv.out k hk); omega); replace ho := own_mod ho hm3 hne7.out; replace hM := hM.trans hm3 (fun k hk e => by have := e; omega); clear hm3 f3)
          | ((with_reducible refine at_store ?_); refine w_astore Try.stBlk _ _ (us := cs2) rfl rfl rfl rfl rfl f7 rfl hcl2 hone2 ?_; intro w3 hm3 f3; replace f7 : Fs w3 g7 cs2 := f3; replace hT2 := hT2.mod hm3 (fun k hk e => by have := hX0.out k hk; omega) (fun e => by have := hl.out.1; omega) (fun e => by have := hl.out.2.1; omega) (fun k hk e => by have := hl.out.2.2 k (hvv2.out k hk); omega); replace hat := hat.mod hm3 (fun k hk e => by have := hX0.out k hk; omega); replace ho := own_mod ho hm3 hne7.out; replace hM := hM.trans hm3 (fun k hk e => by have := e; omega); clear hm3 f3)
          | ((with_reducible refine at_lit ?_); refine w_new Try.elI (i64s [x.name]) rfl rfl rfl (i64s_cells _) rfl (by omega) ?_; intro v8 w5 hx3 o2; replace o2 : OwnI _ w5 v8 [x.name] := o2; replace ho := own_ext ho hx3; replace hT := hT.ext hx3; replace f4 := f4.ext hx3; replace hM := hM.then_ext hx3; clear hx3)
          | ((with_reducible refine at_bi ?_); refine appi _ _ rfl rfl rfl rfl ho o2.ints hbig.out hM.size ?_; intro v9 w9 o9 hb9 hg9 hg9'; have hgm := Mod.grown hg9; have hge := hide_ (fun k hk => (own_block_lt (g := k) ho hk).1); replace f4 := f4.mod hgm (fun hk => hne _ hk rfl); replace hT := hT.mod hgm (fun k hk e => by have h1 := hX0.out k hk; have h2 := hge.out k e; omega) (fun e => by have h1 := hl.out.1; have h2 := hge.out _ e; omega) (fun e => by have h1 := hl.out.2.1; have h2 := hge.out _ e; omega) (fun k hk e => by have h1 := hl.out.2.2 k (hvv.out k hk); have h2 := hge.out k e; omega); replace hM := hM.trans hgm (fun k hk e => by have h2 := hge.out k e; omega); replace ho := o9; clear hgm hge hb9 hg9 hg9' o9 o2 hne)
          | ((with_reducible refine at_load ?_); refine w_aload Try.stBlk _ rfl rfl rfl f4 rfl ?_)
          | ((with_reducible refine at_field ?_); refine w_field Try.stTree _ _ _ rfl rfl rfl (by omega) ?_)
          | fail) <;> (try simp only [Act.put, List.setIfInBounds_toArray, List.set_cons_zero, List.set_cons_succ]))
        go_roundw
        case rel => exact ⟨_, V2, _, cs2, v2, ok, g7, rfl, rfl, ho, hg7, hne7.out, f7, hT2, hat, hvv2, hM, by simp [okn] at hcnt hlen2 ⊢; omega⟩
        case measure => rw [hT2.qlen, hql.out]; simp only [okn] at hlen2 ⊢; omega
      · have hfull := hide_ (show decide (400 ≤ K'.length) = true from decide_eq_true (by omega))
        have hnx := hide_ (hpd.no hk)
        have hone := hide_ (blk_one (a := x.slot) (b := x.miner) (c := x.var) (d := x.parent) htx.1.one')
        have hpar := hide_ (show I64 x.parent from htx.2.1.par)
        have hql := hide_ hT.qlen
        have hvv := hvv'
        clear hvv'
        clear hpd hfx hrx hk hpar
        go_wp2_with ((first
          | (go_at_call 71; refine (take_any hT (fun k hk => Nat.lt_of_lt_of_le (hX0.out k hk) hM.size) hnx.out).mono ?_; rintro e w5 ⟨cs2, v2, ok, V2, rfl, hcl2, hone2, hT2, hat, hv2, hmT, hlen2⟩; replace hM := hM.trans hmT (fun k hk h => h.elim .inl fun e => .inr (.inr (hvv.out k e))); replace f7 := f7.mod hmT (fun h => h.elim (fun e => by have := hl.out.1; omega) fun e => by have := hl.out.2.2 _ (hvv.out _ e); omega); replace ho := own_mod ho hmT (fun k hk h => by have h1 := (own_block_lt (g := k) ho hk).1; exact h.elim (fun e => by have := hl.out.1; omega) fun e => by have := hl.out.2.2 _ (hvv.out _ e); omega); have hvv2 := hide_ (fun k hk => hvv.out k (hv2 k hk)); clear hmT hv2 hT)
          | (go_at_call 55; refine (full_any (hT.toW (fun k hk => Nat.lt_of_lt_of_le (hX0.out k hk) hM.size))).mono ?_; rintro e w4 ⟨rfl, hx⟩; rw [hfull.out]; replace hT := hT.ext hx; replace htx := htx.ext hx; replace f4 := f4.ext hx; replace ho := own_ext ho hx; replace hM := hM.then_ext hx; clear hx)
          | ((with_reducible refine at_alloc ?_); refine w_alloc Try.stBlk rfl rfl ?_; intro g7 w2 hg2 hx f7; have hg7 := Nat.le_trans hM.size hg2; have hne7 := hide_ (show ∀ k, _ = some k → ¬ k = g7 from fun k hk => Nat.ne_of_lt (Nat.lt_of_lt_of_le (own_block_lt (g := k) ho hk).2 hg2)); replace hT := hT.ext hx; replace ho := own_ext ho hx; replace hM := hM.then_ext hx; clear hx hg2 f4)
          | ((with_reducible refine at_store ?_); refine w_astore Try.stBlk _ _ (us := bRow x u) rfl rfl rfl rfl rfl f7 rfl rfl hone.out ?_; intro w3 hm3 f3; replace f7 : Fs w3 g7 (bRow x u) := f3; replace hT := hT.mod hm3 (fun k hk e => by have := hX0.out k hk; omega) (fun e => by have := hl.out.1; omega) (fun e => by have := hl.out.2.1; omega) (fun k hk e => by have := hl.out.2.2 k (hvv.out k hk); omega); replace ho := own_mod ho hm3 hne7.out; replace hM := hM.trans hm3 (fun k hk e => by have := e; omega); clear hm3 f3)
          | ((with_reducible refine at_store ?_); refine w_astore Try.stBlk _ _ (us := cs2) rfl rfl rfl rfl rfl f7 rfl hcl2 hone2 ?_; intro w3 hm3 f3; replace f7 : Fs w3 g7 cs2 := f3; replace hT2 := hT2.mod hm3 (fun k hk e => by have := hX0.out k hk; omega) (fun e => by have := hl.out.1; omega) (fun e => by have := hl.out.2.1; omega) (fun k hk e => by have := hl.out.2.2 k (hvv2.out k hk); omega); replace hat := hat.mod hm3 (fun k hk e => by have := hX0.out k hk; omega); replace ho := own_mod ho hm3 hne7.out; replace hM := hM.trans hm3 (fun k hk e => by have := e; omega); clear hm3 f3)
          | ((with_reducible refine at_load ?_); refine w_aload Try.stBlk _ rfl rfl rfl f4 rfl ?_)
          | ((with_reducible refine at_field ?_); refine w_field Try.stTree _ _ _ rfl rfl rfl (by omega) ?_)
          | fail) <;> (try simp only [Act.put, List.setIfInBounds_toArray, List.set_cons_zero, List.set_cons_succ]))
        go_roundw
        case rel => exact ⟨_, V2, _, cs2, v2, ok, g7, rfl, rfl, ho, hg7, hne7.out, f7, hT2, hat, hvv2, hM, by simp only [okn] at hcnt hlen2 ⊢; omega⟩
        case measure => rw [hT2.qlen, hql.out]; simp only [okn] at hlen2 ⊢; omega
end Go.Proofs.Ytdoeoncmhaihbaa
namespace Go.Proofs.Ytdoeoncmhaihbaa
set_option maxRecDepth 100000
open Go.RowKit

theorem drain_acc : ∀ (f : Nat) (K W : List BlkD) (o : List Int), TrS.drain f K W o = ((TrS.drain f K W []).1, (TrS.drain f K W []).2.1, o ++ (TrS.drain f K W []).2.2)
  | 0, K, W, o => by simp [TrS.drain]
  | f + 1, K, W, o => by
    simp only [TrS.drain]
    cases TrS.pick K W with
    | none => simp
    | some q =>
      obtain ⟨x, r⟩ := q
      simp only
      split
      · rw [drain_acc f (K ++ [x]) r (o ++ [x.name]), drain_acc f (K ++ [x]) r ([] ++ [x.name])]; simp
      · rw [drain_acc f K r o]
section
variable {K V : List BlkD} {b : BlkD}
theorem add_c1 (h : b.name = 0 ∨ TrS.has K b.name = true ∨ TrS.has V b.name = true) : TrS.add ⟨K, V⟩ b = (⟨K, V⟩, [], false) := if_pos h
theorem add_c2 (h : ¬ (b.name = 0 ∨ TrS.has K b.name = true ∨ TrS.has V b.name = true)) (hr : TrS.ready K b = false) : TrS.add ⟨K, V⟩ b = (⟨K, pushQ V b⟩, [], true) := by
  unfold TrS.add
  rw [if_neg h, if_neg (by simp [hr])]; rfl
theorem add_c3 (h : ¬ (b.name = 0 ∨ TrS.has K b.name = true ∨ TrS.has V b.name = true)) (hr : TrS.ready K b = true) (hk : ¬ K.length < 400) : TrS.add ⟨K, V⟩ b = (⟨K, V⟩, [], false) := by
  unfold TrS.add
  rw [if_neg h, if_pos hr]; exact if_neg hk
theorem add_c4 (h : ¬ (b.name = 0 ∨ TrS.has K b.name = true ∨ TrS.has V b.name = true)) (hr : TrS.ready K b = true) (hk : K.length < 400) :
    TrS.add ⟨K, V⟩ b = (⟨(TrS.drain V.length (K ++ [b]) V []).1, (TrS.drain V.length (K ++ [b]) V []).2.1⟩, b.name :: (TrS.drain V.length (K ++ [b]) V []).2.2, true) := by
  unfold TrS.add
  rw [if_neg h, if_pos hr]
  simp only
  rw [if_pos hk, drain_acc]; rfl
theorem Fit8.more (h : Fit8 K V) (hr : b.Right) (h1 : TrS.has K b.name = false) (h2 : TrS.has V b.name = false) (hf : V.length ≤ 16) : Fit8 K (V ++ [b]) := by
  have hn := h.nodup
  refine ⟨fun c hc => ?_, ?_, h.stood, by simp; omega, h.room⟩
  · rw [← List.append_assoc] at hc
    rcases List.mem_append.1 hc with hc | hc
    · exact h.right c hc
    · simp at hc; subst hc; exact hr
  · rw [← List.append_assoc, List.map_append, List.nodup_append]
    refine ⟨hn, by simp, fun a ha c hc => ?_⟩
    simp at hc; subst hc
    obtain ⟨x, hx, rfl⟩ := List.mem_map.1 ha
    rcases List.mem_append.1 hx with hx | hx
    · exact TrS.has_false.1 h1 x hx
    · exact TrS.has_false.1 h2 x hx
theorem Fit8.grow (h : Fit8 K V) (hr : b.Right) (h1 : TrS.has K b.name = false) (h2 : TrS.has V b.name = false) (hf : V.length ≤ 16) (hrd : TrS.ready K b = true) (hk : K.length < 400) : Fit8 (K ++ [b]) V := by
  have h3 := h.more hr h1 h2 hf
  have hp : (V ++ [b]).Perm (b :: V) := List.perm_append_comm (l₂ := [b])
  refine Fit8.learn ⟨fun c hc => h3.right c ?_, (((hp.append_left K).map BlkD.name).nodup_iff).1 h3.nodup, h.stood, by simp; omega, h.room⟩ hrd hk
  rcases List.mem_append.1 hc with hc | hc
  · exact List.mem_append_left _ hc
  · exact List.mem_append_right _ (hp.mem_iff.2 hc)
end
theorem right_of_name {b : BlkD} (h : b.name ≠ 0) : b.Right := by
  unfold BlkD.name at h
  split at h
  · assumption
  · exact absurd rfl h
theorem TrC.widen {X Y : Nat → Prop} {w : World} {p g : Nat} {v : Value} {K V : List BlkD} (h : TrC X w p g v K V) (hX : ∀ k, X k → Y k) (hp : ¬ Y p) (hg : ¬ Y g) (hv : ∀ k, v.ownBlock = some k → ¬ Y k) : TrC Y w p g v K V := by
  obtain ⟨n, D, us, h1, h2, h3, h4, h5⟩ := h.map
  obtain ⟨vs, k1, k2, k3⟩ := h.que
  exact ⟨h.obj, ⟨n, D, us, h1, h2, h3, h4, fun x hx => (h5 x hx).mono hX⟩, ⟨vs, k1, k2, fun x hx => (k3 x hx).mono hX⟩, ⟨h.sep.1, hp, hg, fun k hk => ⟨hv k hk, (h.sep.2.2.2 k hk).2⟩⟩, h.fit⟩
/-- A block's own copy, new since lo. -/
def Sp.bcopy (lo : Nat) (b : BlkD) : Sp := .any (fun v w => ∃ u, v = .agg (bRow b u).toArray ∧ OwnT lo w u b.txs) fun _ _ _ ⟨u, h1, h2⟩ he => ⟨u, h1, h2.ext he⟩
/-- The blocks of transactions, and those of a new copy. -/
def X46 (X : Nat → Prop) (u : Value) (k : Nat) : Prop := X k ∨ u.ownBlock = some k
theorem tree_copy {X : Nat → Prop} {w wd : World} {p g : Nat} {v u : Value} {K V : List BlkD} {b : BlkD} (h : TrC X w p g v K V) (hX0 : ∀ k, X k → k < w.heap.size) (hX : Ext w wd) (ho : OwnT w.heap.size wd u b.txs) (hraw : b.Raw) :
    TrC (X46 X u) wd p g v K V ∧ TxX (X46 X u) wd u b ∧ (∀ k, X46 X u k → k < wd.heap.size) ∧ ∀ k, X46 X u k → X k ∨ w.heap.size ≤ k := by
  have l := h.lts
  refine ⟨(h.ext hX).widen (fun k hk => .inl hk) (fun hk => hk.elim h.sep.2.1 fun e => by have := ho.new _ e; omega) (fun hk => hk.elim h.sep.2.2.1 fun e => by have := ho.new _ e; omega) (fun k hk hy => hy.elim (h.sep.2.2.2 k hk).1 fun e => by have := ho.new _ e; have := l.2.2 k hk; omega), ⟨ho.recs, hraw, fun k hk => ⟨.inr hk, ho.lt hk⟩⟩, fun k hk => hk.elim (fun e => Nat.lt_of_lt_of_le (hX0 k e) hX.size) fun e => ho.lt e, fun k hk => hk.imp_right fun e => ho.new k e⟩
theorem tree_fin {X Y G : Nat → Prop} {w w' : World} {p g : Nat} {v v' : Value} {K' V' : List BlkD} (hXG : ∀ k, X k → G k ∧ k < w.heap.size) (hGp : G p) (hGg : G g) (hGv : ∀ k, v.ownBlock = some k → G k) (hM : Mod (F49 p g v) w w') (hT : TrC Y w' p g v' K' V') (hY : ∀ k, Y k → (X k ∨ w.heap.size ≤ k) ∧ k < w'.heap.size)
    (hv : ∀ k, v'.ownBlock = some k → v.ownBlock = some k ∨ w.heap.size ≤ k) : TrW (fun k => G k ∨ (w.heap.size ≤ k ∧ k < w'.heap.size)) w' p K' V' ∧ Upd G (fun k => G k ∨ (w.heap.size ≤ k ∧ k < w'.heap.size)) w w' := by
  have l := hT.lts
  refine ⟨⟨Y, g, v', hT, fun k hk => ⟨?_, (hY k hk).2⟩, .inl hGp, .inl hGg, fun k hk => ?_⟩, ⟨hM.mono fun k _ hk => hk.elim (fun e => e ▸ hGp) fun e => e.elim (fun e => e ▸ hGg) (hGv k), fun k hk => hk⟩⟩
  · rcases (hY k hk).1 with e | e
    · exact .inl (hXG k e).1
    · exact .inr ⟨e, (hY k hk).2⟩
  · rcases hv k hk with e | e
    · exact .inl (hGv k e)
    · exact .inr ⟨e, l.2.2 k hk⟩

theorem learn_n {X : Nat → Prop} {w : World} {p g : Nat} {v u : Value} {K V : List BlkD} {b : BlkD} {n : Int} (hn : b.name = n) (h0 : TrC X w p g v K V) (hX0 : ∀ k, X k → k < w.heap.size) (ht0 : TxX X w u b) (hfit0 : Fit8 (K ++ [b]) V) (hrd : TrS.ready K b = true) :
    Calls Try.prog 56 #[.pointer (some ⟨p, 0, none⟩), .int .i64 n, .agg #[.int .i64 b.slot, .int .i64 b.miner, .int .i64 b.var, .int .i64 b.parent, u]] w fun e w' => e = .returned (.tuple #[]) ∧ TrC X w' p g v (K ++ [b]) V ∧ Mod (fun k => k = g) w w' := by
  subst hn; exact learn_any h0 hX0 ht0 hfit0 hrd
theorem drain_names_len : ∀ (f : Nat) (K W : List BlkD), (TrS.drain f K W []).2.2.length ≤ f
  | 0, K, W => by simp [TrS.drain]
  | f + 1, K, W => by
    simp only [TrS.drain]
    cases TrS.pick K W with
    | none => simp
    | some q =>
      obtain ⟨x, r⟩ := q
      simp only
      split
      · rw [drain_acc]
        have := drain_names_len f (K ++ [x]) r
        simp; omega
      · have := drain_names_len f K r
        omega

set_option maxRecDepth 100000 in
set_option maxHeartbeats 6400000 in
theorem Add_any {G : Nat → Prop} {w : World} {p : Nat} {K V : List BlkD} {b : BlkD} {u : Value} (h00 : TrW G w p K V) (hV : V.length ≤ 16) (hu0 : Recs 2 TxR w u b.txs) (hraw : b.Raw) :
    Calls Try.prog 42 #[.pointer (some ⟨p, 0, none⟩), .agg #[.int .i64 b.slot, .int .i64 b.miner, .int .i64 b.var, .int .i64 b.parent, u]] w fun e w' => ∃ (v' : Value) (G' : Nat → Prop), e = .returned (.tuple #[v', .bool (TrS.add ⟨K, V⟩ b).2.2]) ∧
      OwnI w.heap.size w' v' (TrS.add ⟨K, V⟩ b).2.1 ∧ TrW G' w' p (TrS.add ⟨K, V⟩ b).1.known (TrS.add ⟨K, V⟩ b).1.wait ∧ Upd G G' w w' := by
  refine calls_keep ?_
  have hpar := hide_ (show I64 b.parent from hraw.par)
  have h0 := hide_ h00
  have hu := hide_ hu0
  have hone := blk_one (a := b.slot) (b := b.miner) (c := b.var) (d := b.parent) hu0.one'
  obtain ⟨n, hn⟩ : ∃ n, b.name = n := ⟨_, rfl⟩
  have hn' := hide_ hn
  obtain ⟨R, hR⟩ : ∃ R, TrS.add ⟨K, V⟩ b = R := ⟨_, rfl⟩
  rw [hR]
  cases q0 : (n == 0)
  rotate_left
  · obtain rfl : n = 0 := by simpa using q0
    obtain rfl : R = (⟨K, V⟩, [], false) := by rw [← hR]; exact add_c1 (.inl hn)
    clear hR hn q0 hu0 h00 hone
    go_enter Try.func42, Try.ntmps42
    go_wp2_with ((first
      | (go_at_call 51; refine (BName_any (b := b) (hu.out.ext TxR.stays hX) hpar.out).mono ?_; rintro e w4 ⟨rfl, hx⟩; rw [hn'.out]; replace f3 := f3.ext hx; replace hX := hX.trans hx; clear hx)
      | ((with_reducible refine at_box ?_); refine w_box _ (bRow b u) rfl rfl rfl rfl ?_; intro g3 w1 hg3 hX f3)
      | ((with_reducible refine at_load ?_); refine w_aload Try.stBlk _ rfl rfl rfl f3 rfl ?_)
      | fail) <;> (try simp only [Act.put, List.setIfInBounds_toArray, List.set_cons_zero, List.set_cons_succ]))
    go_ret2
    exact Keep.intro ⟨_, G, rfl, OwnI.nil _ _, h0.out.ext hX, Upd.ofExt hX G⟩
  have hn0 : n ≠ 0 := by simpa using q0
  have hright : b.Right := right_of_name (by rw [hn]; exact hn0)
  have hnm := hide_ (show I64 n from hn ▸ hright.i64)
  cases q1 : TrS.has K n
  rotate_left
  · obtain rfl : R = (⟨K, V⟩, [], false) := by rw [← hR]; exact add_c1 (.inr (.inl (by rw [hn]; exact q1)))
    have q1' := hide_ q1
    clear hR hn hu0 h00 hone hn0 q1
    go_enter Try.func42, Try.ntmps42
    go_wp2_with ((first
      | (go_at_call 51; refine (BName_any (b := b) (hu.out.ext TxR.stays hX) hpar.out).mono ?_; rintro e w4 ⟨rfl, hx⟩; rw [hn'.out]; replace f3 := f3.ext hx; replace hX := hX.trans hx; clear hx)
      | (go_at_call 30; refine (Has_any (n := n) (h0.out.ext hX) hnm.out).mono ?_; rintro e w4 ⟨rfl, hx⟩; rw [q1'.out]; replace f3 := f3.ext hx; replace hX := hX.trans hx; clear hx)
      | ((with_reducible refine at_box ?_); refine w_box _ (bRow b u) rfl rfl rfl rfl ?_; intro g3 w1 hg3 hX f3)
      | ((with_reducible refine at_load ?_); refine w_aload Try.stBlk _ rfl rfl rfl f3 rfl ?_)
      | fail) <;> (try simp only [Act.put, List.setIfInBounds_toArray, List.set_cons_zero, List.set_cons_succ]))
    go_ret2
    exact Keep.intro ⟨_, G, rfl, OwnI.nil _ _, h0.out.ext hX, Upd.ofExt hX G⟩
  cases q2 : TrS.has V n
  rotate_left
  · obtain rfl : R = (⟨K, V⟩, [], false) := by rw [← hR]; exact add_c1 (.inr (.inr (by rw [hn]; exact q2)))
    have q1' := hide_ q1
    have q2' := hide_ q2
    clear hR hn hu0 h00 hone hn0 q1 q2
    go_enter Try.func42, Try.ntmps42
    go_wp2_with ((first
      | (go_at_call 51; refine (BName_any (b := b) (hu.out.ext TxR.stays hX) hpar.out).mono ?_; rintro e w4 ⟨rfl, hx⟩; rw [hn'.out]; replace f3 := f3.ext hx; replace hX := hX.trans hx; clear hx)
      | (go_at_call 30; refine (Has_any (n := n) (h0.out.ext hX) hnm.out).mono ?_; rintro e w4 ⟨rfl, hx⟩; rw [q1'.out]; replace f3 := f3.ext hx; replace hX := hX.trans hx; clear hx)
      | (go_at_call 52; refine (waits_any (n := n) (h0.out.ext hX)).mono ?_; rintro e w4 ⟨rfl, hx⟩; rw [q2'.out]; replace f3 := f3.ext hx; replace hX := hX.trans hx; clear hx)
      | ((with_reducible refine at_box ?_); refine w_box _ (bRow b u) rfl rfl rfl rfl ?_; intro g3 w1 hg3 hX f3)
      | ((with_reducible refine at_load ?_); refine w_aload Try.stBlk _ rfl rfl rfl f3 rfl ?_)
      | fail) <;> (try simp only [Act.put, List.setIfInBounds_toArray, List.set_cons_zero, List.set_cons_succ]))
    go_ret2
    exact Keep.intro ⟨_, G, rfl, OwnI.nil _ _, h0.out.ext hX, Upd.ofExt hX G⟩
  have hc : ¬ (b.name = 0 ∨ TrS.has K b.name = true ∨ TrS.has V b.name = true) := by rw [hn, q1, q2]; simp [hn0]
  have q1' := hide_ q1
  have q2' := hide_ q2
  obtain ⟨X, g, v, hC, hXG, hGp, hGg, hGv⟩ := h00
  have hXl : ∀ k, X k → k < w.heap.size := fun k hk => (hXG k hk).2
  have hl16 := hide_ (show b.txs.length * 16 ≤ 140737488355328 from by have := hright.t.1; omega)
  have hK1 : TrS.has K b.name = false := by rw [hn]; exact q1
  have hK2 : TrS.has V b.name = false := by rw [hn]; exact q2
  cases q3 : TrS.ready K b
  · have hfit := hide_ (hC.fit.more hright hK1 hK2 hV)
    obtain rfl : R = (⟨K, pushQ V b⟩, [], true) := by rw [← hR]; exact add_c2 hc q3
    have q3' := hide_ q3
    have hC' := hide_ hC
    have hXl' := hide_ hXl
    have hall := hide_ (show ∀ k, X k → G k ∧ k < w.heap.size from hXG)
    clear hR hn hu0 hn0 q1 q2 q3 hc hK1 hK2 hXG hXl hright
    go_enter Try.func42, Try.ntmps42
    go_wp2_with ((first
      | (go_at_call 51; refine (BName_any (b := b) (hu.out.ext TxR.stays hX) hpar.out).mono ?_; rintro e w4 ⟨rfl, hx⟩; rw [hn'.out]; replace f3 := f3.ext hx; replace hX := hX.trans hx; clear hx)
      | (go_at_call 30; refine (Has_any (n := n) (h0.out.ext hX) hnm.out).mono ?_; rintro e w4 ⟨rfl, hx⟩; rw [q1'.out]; replace f3 := f3.ext hx; replace hX := hX.trans hx; clear hx)
      | (go_at_call 52; refine (waits_any (n := n) (h0.out.ext hX)).mono ?_; rintro e w4 ⟨rfl, hx⟩; rw [q2'.out]; replace f3 := f3.ext hx; replace hX := hX.trans hx; clear hx)
      | (go_at_call 53; refine (ready_any (d := b) (u := u) (h0.out.ext hX) hpar.out).mono ?_; rintro e w4 ⟨rfl, hx⟩; rw [q3'.out]; replace f3 := f3.ext hx; replace hX := hX.trans hx; clear hx)
      | ((with_reducible refine at_box ?_); refine w_box _ (bRow b u) rfl rfl rfl rfl ?_; intro g3 w1 hg3 hX f3)
      | ((with_reducible refine at_load ?_); refine w_aload Try.stBlk _ rfl rfl rfl f3 rfl ?_)
      | fail) <;> (try simp only [Act.put, List.setIfInBounds_toArray, List.set_cons_zero, List.set_cons_succ]))
    refine wp_region_phx (by kernel_rfl) ?_; intro wd hxd; have H3 := f3.ext hxd
    refine Ph.gate 0 5 (by kernel_rfl) ?_
    refine LinL.step (s := (.val (.pointer (some ⟨p, 0, none⟩)))) [(0, none)] rfl (by kernel_rfl) (op_out 0 (.pointer (some ⟨p, 0, none⟩)) rfl (.inl rfl) rfl) ?_
    refine LinL.step (s := (.val (.pointer (some ⟨p, 0, none⟩)))) [(25, some 0)] rfl (by kernel_rfl) (op_runs rfl fun σ w' hx hg => ⟨_, runs_nil (ρ := σ.eval) (w := w') (.tmp 25) rfl hg.1, rfl⟩) ?_
    refine LinL.step (s := (.val (.pointer (some ⟨p, 1, none⟩)))) [(26, some 0)] rfl (by kernel_rfl) (op_runs rfl fun σ w' hx hg => ⟨_, runs_field (ρ := σ.eval) (w := w') Try.stTree (.tmp 26) p 1 rfl hg.1 (by omega), rfl⟩) ?_
    refine LinL.step (s := (.val (.agg #[.int .i64 b.slot, .int .i64 b.miner, .int .i64 b.var, .int .i64 b.parent, u]))) [(3, none)] rfl (by kernel_rfl) (op_runs rfl fun σ w' hx hg => ⟨_, runs_aload (ρ := σ.eval) (w := w') Try.stBlk (.tmp 3) rfl hg.1 (H3.ext hx) rfl, rfl⟩) ?_
    refine LinL.step (s := Sp.bcopy w.heap.size b) [(28, some 0)] rfl (by kernel_rfl) (op_calls 32 #[(.tmp 28)] #[59] (fun σ => #[.agg #[.int .i64 b.slot, .int .i64 b.miner, .int .i64 b.var, .int .i64 b.parent, u]]) rfl rfl (fun _ _ => rfl) fun σ w' hx hg => ⟨by have h9 : σ.tmps.getD 28 undef = .agg #[.int .i64 b.slot, .int .i64 b.miner, .int .i64 b.var, .int .i64 b.parent, u] := hg.1; simp only [List.map_toArray, List.map_cons, List.map_nil, Act.eval, h9],
      (BCopy_any (b := b) (hu.out.ext TxR.stays ((hX.trans hxd).trans hx)) hl16.out).mono fun e w'' ⟨u', he, ho, hx'⟩ => ⟨_, he, hx', u', rfl, ho.mono ((hX.trans hxd).trans hx).size⟩⟩) ?_
    intro wN hxN
    simp only [Fin', Sp.bcopy, List.reverse_cons, List.reverse_nil, List.nil_append, List.cons_append, List.drop_zero, List.take_succ_cons, List.take_zero]
    intro q29 hq29
    obtain ⟨u', rfl, ho⟩ := hq29
    simp only [Act.put, List.setIfInBounds_toArray, List.set_cons_zero, List.set_cons_succ]
    replace hX := hX.trans (hxd.trans hxN)
    obtain ⟨hT, ht, hY, hYX⟩ := tree_copy hC'.out hXl'.out hX ho hraw
    refine wpOp_call 54 #[.pointer (some ⟨p, 1, none⟩), .agg #[.int .i64 b.slot, .int .i64 b.miner, .int .i64 b.var, .int .i64 b.parent, u'], .int .i64 16] 30 rfl rfl rfl rfl (fun _ _ => rfl) (by simp only [List.map_toArray, List.map_cons, List.map_nil, Act.eval]; rfl) ?_
    refine (push_any hT hY ht hV hfit.out).mono ?_; rintro e w5 ⟨rfl, v', hT5, hM5, hv5⟩; refine ⟨_, rfl, ?_⟩
    simp only [Act.put, List.setIfInBounds_toArray, List.set_cons_zero, List.set_cons_succ]
    show Ph Try.prog _ _ 6 _ _
    refine Ph.rest 6 0 (by kernel_rfl) ?_
    intro wN2 hxN2
    simp only [Fin', List.reverse_nil, List.drop_zero, List.drop_succ_cons, List.take_zero]
    have hM : Mod (F49 p g v) w wN2 := ((hX.mod (F49 p g v)).trans hM5 fun k _ e => e.elim .inl fun e => .inr (.inr e)).then_ext hxN2
    obtain ⟨hW, hU⟩ := tree_fin hall.out hGp hGg hGv hM (hT5.ext hxN2) (fun k hk => ⟨hYX k hk, Nat.lt_of_lt_of_le (hY k hk) (Nat.le_trans hM5.size hxN2.size)⟩) (fun k hk => (hv5 k hk).imp_right fun e => Nat.le_trans hX.size e)
    clear hxd hxN hxN2 H3 f3 hX hT ht hY hYX hT5 hM5 hv5 hM ho
    go_wp2
    go_ret2
    exact Keep.intro ⟨_, _, rfl, OwnI.nil _ _, hW, hU⟩
  by_cases hk : K.length < 400
  rotate_left
  · have q4' := hide_ (show decide (400 ≤ K.length) = true from decide_eq_true (by omega))
    obtain rfl : R = (⟨K, V⟩, [], false) := by rw [← hR]; exact add_c3 hc q3 hk
    have q3' := hide_ q3
    clear hR hn hu0 hn0 q1 q2 q3 hc hK1 hK2 hXG hXl hright hC hone hk
    go_enter Try.func42, Try.ntmps42
    go_wp2_with ((first
      | (go_at_call 51; refine (BName_any (b := b) (hu.out.ext TxR.stays hX) hpar.out).mono ?_; rintro e w4 ⟨rfl, hx⟩; rw [hn'.out]; replace f3 := f3.ext hx; replace hX := hX.trans hx; clear hx)
      | (go_at_call 30; refine (Has_any (n := n) (h0.out.ext hX) hnm.out).mono ?_; rintro e w4 ⟨rfl, hx⟩; rw [q1'.out]; replace f3 := f3.ext hx; replace hX := hX.trans hx; clear hx)
      | (go_at_call 52; refine (waits_any (n := n) (h0.out.ext hX)).mono ?_; rintro e w4 ⟨rfl, hx⟩; rw [q2'.out]; replace f3 := f3.ext hx; replace hX := hX.trans hx; clear hx)
      | (go_at_call 53; refine (ready_any (d := b) (u := u) (h0.out.ext hX) hpar.out).mono ?_; rintro e w4 ⟨rfl, hx⟩; rw [q3'.out]; replace f3 := f3.ext hx; replace hX := hX.trans hx; clear hx)
      | (go_at_call 55; refine (full_any (h0.out.ext hX)).mono ?_; rintro e w4 ⟨rfl, hx⟩; rw [q4'.out]; replace f3 := f3.ext hx; replace hX := hX.trans hx; clear hx)
      | ((with_reducible refine at_box ?_); refine w_box _ (bRow b u) rfl rfl rfl rfl ?_; intro g3 w1 hg3 hX f3)
      | ((with_reducible refine at_load ?_); refine w_aload Try.stBlk _ rfl rfl rfl f3 rfl ?_)
      | fail) <;> (try simp only [Act.put, List.setIfInBounds_toArray, List.set_cons_zero, List.set_cons_succ]))
    go_ret2
    exact Keep.intro ⟨_, G, rfl, OwnI.nil _ _, h0.out.ext hX, Upd.ofExt hX G⟩
  have q4' := hide_ (show decide (400 ≤ K.length) = false from decide_eq_false (by omega))
  have hfit := hide_ (hC.fit.grow hright hK1 hK2 hV q3 hk)
  obtain ⟨D, hD⟩ : ∃ D, TrS.drain V.length (K ++ [b]) V [] = D := ⟨_, rfl⟩
  obtain rfl : R = (⟨D.1, D.2.1⟩, n :: D.2.2, true) := by rw [← hR, add_c4 hc q3 hk, hD, hn]
  have hbig := hide_ (show ([n].length + D.2.2.length) * 8 ≤ 140737488355328 from by have := drain_names_len V.length (K ++ [b]) V; rw [hD] at this; simp; omega)
  have hD' := hide_ hD
  have q3' := hide_ q3
  have hC' := hide_ hC
  have hXl' := hide_ hXl
  have hall := hide_ (show ∀ k, X k → G k ∧ k < w.heap.size from hXG)
  have hl := hide_ hC.lts
  clear hR hn hu0 hn0 q1 q2 q3 hc hK1 hK2 hXG hXl hright hC hk hD
  go_enter Try.func42, Try.ntmps42
  go_wp2_with ((first
    | (go_at_call 51; refine (BName_any (b := b) (hu.out.ext TxR.stays hX) hpar.out).mono ?_; rintro e w4 ⟨rfl, hx⟩; rw [hn'.out]; replace f3 := f3.ext hx; replace hX := hX.trans hx; clear hx)
    | (go_at_call 30; refine (Has_any (n := n) (h0.out.ext hX) hnm.out).mono ?_; rintro e w4 ⟨rfl, hx⟩; rw [q1'.out]; replace f3 := f3.ext hx; replace hX := hX.trans hx; clear hx)
    | (go_at_call 52; refine (waits_any (n := n) (h0.out.ext hX)).mono ?_; rintro e w4 ⟨rfl, hx⟩; rw [q2'.out]; replace f3 := f3.ext hx; replace hX := hX.trans hx; clear hx)
    | (go_at_call 53; refine (ready_any (d := b) (u := u) (h0.out.ext hX) hpar.out).mono ?_; rintro e w4 ⟨rfl, hx⟩; rw [q3'.out]; replace f3 := f3.ext hx; replace hX := hX.trans hx; clear hx)
    | (go_at_call 55; refine (full_any (h0.out.ext hX)).mono ?_; rintro e w4 ⟨rfl, hx⟩; rw [q4'.out]; replace f3 := f3.ext hx; replace hX := hX.trans hx; clear hx)
    | (go_at_call 32; refine (BCopy_any (b := b) (hu.out.ext TxR.stays hX) hl16.out).mono ?_; rintro e w5 ⟨u', rfl, hO, hx⟩; replace hO := hO.mono hX.size; replace hX := hX.trans hx; obtain ⟨hT, ht, hY, hYX⟩ := tree_copy hC'.out hXl'.out hX hO hraw; clear hx f3 hO)
    | (go_at_call 56; refine (learn_n hn'.out hT hY ht hfit.out q3'.out).mono ?_; rintro e w6 ⟨rfl, hT6, hM6⟩; replace hY := (fun k hk => Nat.lt_of_lt_of_le (hY k hk) hM6.size); have hM := (hX.mod (F49 p g v)).trans hM6 (fun _ _ e => .inr (.inl e)); clear hT ht hM6 hX)
    | (go_at_call 57; refine (learnReady_any hT6 (fun k hk => Nat.lt_of_lt_of_le (hY k hk) hs7)).mono ?_; rintro e w8 ⟨u3, v8, rfl, o3, hT8, hv8, hM8⟩; rw [hD'.out] at o3 hT8; replace o3 := o3.ints; replace o2 := own_mod o2 hM8 (fun k hk h => by have h1 := (own_block_lt (g := k) o2 hk).1; have h2 := hw6.out; exact h.elim (fun e => by have := hl.out.1; omega) fun h => h.elim (fun e => by have := hl.out.2.1; omega) fun e => by have := hl.out.2.2 k e; omega); replace hM := hM.trans hM8 (fun _ _ e => e); have hs8 := Nat.le_trans hs7 hM8.size; clear hT6 hM8)
    | ((with_reducible refine at_box ?_); refine w_box _ (bRow b u) rfl rfl rfl rfl ?_; intro g3 w1 hg3 hX f3)
    | ((with_reducible refine at_load ?_); refine w_aload Try.stBlk _ rfl rfl rfl f3 rfl ?_)
    | ((with_reducible refine at_lit ?_); refine w_new Try.elI (i64s [n]) rfl rfl rfl (i64s_cells _) rfl (by omega) ?_; intro v2 w7 hx3 o2; replace o2 : OwnI _ w7 v2 [n] := o2; have hw6 := hide_ hM.size; have hs7 := hx3.size; replace hT6 := hT6.ext hx3; replace hM := hM.then_ext hx3; clear hx3)
    | ((with_reducible refine at_bi ?_); refine appi _ _ rfl rfl rfl rfl o2 o3 hbig.out hs8 ?_; intro v9 w9 o9 hb9 hg9 hg9'; have hgm := Mod.grown hg9; have hge := hide_ (fun k hk => (own_block_lt (g := k) o2 hk).1); replace hT8 := hT8.mod hgm (fun k hk e => by have h1 := hY k hk; have h2 := hge.out k e; omega) (fun e => by have h1 := hl.out.1; have h2 := hge.out _ e; have h3 := hw6.out; omega) (fun e => by have h1 := hl.out.2.1; have h2 := hge.out _ e; have h3 := hw6.out; omega) (fun k hk e => by have h1 := hl.out.2.2 k (hv8 k hk); have h2 := hge.out k e; have h3 := hw6.out; omega); replace hM := hM.trans hgm (fun k hk e => by have h2 := hge.out k e; have h3 := hw6.out; omega); have hsz9 := Nat.le_trans hs8 hgm.size; clear hgm hge hb9 hg9 hg9' o2)
    | fail) <;> (try simp only [Act.put, List.setIfInBounds_toArray, List.set_cons_zero, List.set_cons_succ]))
  go_ret2
  obtain ⟨hW, hU⟩ := tree_fin hall.out hGp hGg hGv hM hT8 (fun k hk => ⟨hYX k hk, Nat.lt_of_lt_of_le (hY k hk) hsz9⟩) (fun k hk => .inl (hv8 k hk))
  exact Keep.intro ⟨v9, _, rfl, o9.mono hw6.out, hW, hU⟩
end Go.Proofs.Ytdoeoncmhaihbaa
