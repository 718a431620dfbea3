/- The chain that grows, as plain mathematics: the transactions on a way, which of those that are offered a block takes, what is made and what is taken. · A chain: what lies where; New, Slot, Next, Tree, Confirmed, Txs. · A chain: which of the transactions that are offered a block takes; Take; Make. · A chain: Take, Make. -/
import Derived.Test.YtdoeoncmhaihbaaTLA
import Derived.Test.YtdoeoncmhaihbaaLTG
import Derived.Test.YtdoeoncmhaihbaaTRB
import Derived.Test.YtdoeoncmhaihbaaCont
import Derived.Test.YtdoeoncmhaihbaaTRC
import Derived.Test.YtdoeoncmhaihbaaTDG
namespace Go.Proofs.Ytdoeoncmhaihbaa
set_option maxRecDepth 100000
open Go.RowKit

/-- The IDs of a block's transactions. -/
def idl (l : List TxD) : List Int := l.map TxD.id
/-- Of all blocks on a way. -/
def idsOf (K : List BlkD) (p : List Int) : List Int := p.flatMap fun n => idl (getOr K n).txs
def ids (K : List BlkD) (n : Int) : List Int := idsOf K (TrS.path K n)
theorem idsOf_take {K : List BlkD} {p : List Int} {k : Nat} {n : Int} (h : p[k]? = some n) : idsOf K (p.take (k + 1)) = idsOf K (p.take k) ++ idl (getOr K n).txs := by
  unfold idsOf
  rw [List.take_add_one, h]; simp
theorem idl_take {l : List TxD} {k : Nat} {t : TxD} (h : l[k]? = some t) : idl (l.take (k + 1)) = idl (l.take k) ++ [t.id] := by
  unfold idl
  rw [List.take_add_one, h]; simp
/-- As many as a block has room for of those that aren't there already. -/
def unu (used : List Int) (l : List TxD) : List TxD := (l.filter fun t => !decide (t.id ∈ used)).take 3
theorem unu_len (used : List Int) (l : List TxD) : (unu used l).length ≤ 3 := by unfold unu; rw [List.length_take]; omega
theorem unu_snoc_no {used : List Int} {l : List TxD} {k : Nat} {t : TxD} (h : l[k]? = some t) (ht : t.id ∈ used) : unu used (l.take (k + 1)) = unu used (l.take k) := by
  unfold unu
  rw [List.take_add_one (i := k), h]; simp [ht]
theorem unu_snoc_yes {used : List Int} {l : List TxD} {k : Nat} {t : TxD} (h : l[k]? = some t) (ht : t.id ∉ used) (hl : (unu used (l.take k)).length ≠ 3) : unu used (l.take (k + 1)) = unu used (l.take k) ++ [t] := by
  unfold unu at hl ⊢
  rw [List.take_add_one (i := k), h]
  simp only [Option.toList_some, List.filter_append, List.filter_cons, ht, decide_false, Bool.not_false, if_true, List.filter_nil]
  generalize (l.take k).filter (fun t => !decide (t.id ∈ used)) = F at hl ⊢
  rw [List.length_take] at hl
  rw [List.take_of_length_le (by rw [List.length_append, List.length_singleton]; omega), List.take_of_length_le (l := F) (by omega)]
theorem unu_full {used : List Int} {l : List TxD} {k : Nat} (hl : (unu used (l.take k)).length = 3) : unu used l = unu used (l.take k) := by
  have e : l = l.take k ++ l.drop k := (List.take_append_drop k l).symm
  conv => lhs; rw [e]
  unfold unu at hl ⊢
  rw [List.length_take] at hl
  rw [List.filter_append, List.take_append_of_le_length (by omega)]
theorem unu_stop {used : List Int} {l : List TxD} {k : Nat} (hl : (unu used (l.take k)).length = 3) (j : Nat) (hj : k ≤ j) : unu used (l.take j) = unu used (l.take k) := by
  have := unu_full (used := used) (l := l.take j) (k := k) (by rw [List.take_take, Nat.min_eq_left hj]; exact hl)
  rw [List.take_take, Nat.min_eq_left hj] at this; exact this
theorem unu_mem {used : List Int} {l : List TxD} {t : TxD} (h : t ∈ unu used l) : t ∈ l := (List.mem_filter.1 (List.mem_of_mem_take h)).1
/-- What one makes. -/
def mkB (slot me : Int) (K : List BlkD) (txs : List TxD) : BlkD := ⟨slot, me, 0, TrS.tip K, unu (ids K (TrS.tip K)) txs⟩
def mkOk (ds : List Int) (slot me : Int) (K : List BlkD) (txs : List TxD) : Bool := win ds slot me && decide (mkB slot me K txs).Right
def mkD (ds : List Int) (slot me : Int) (K : List BlkD) (txs : List TxD) : BlkD := if mkOk ds slot me K txs = true then mkB slot me K txs else BlkD.zero
/-- What one takes: the tree behind it, the names, the error. -/
def tkOk (ds : List Int) (slot : Int) (t : TrS) (b : BlkD) : Bool := !decide (slot < b.slot) && win ds b.slot b.miner && (TrS.add t b).2.2
def tkT (ds : List Int) (slot : Int) (t : TrS) (b : BlkD) : TrS := if tkOk ds slot t b = true then (TrS.add t b).1 else t
def tkL (ds : List Int) (slot : Int) (t : TrS) (b : BlkD) : List Int := if tkOk ds slot t b = true then (TrS.add t b).2.1 else []
def tkE (ds : List Int) (slot : Int) (t : TrS) (b : BlkD) : Int := if tkOk ds slot t b = true then 0 else 111
section
variable {ds : List Int} {slot : Int} {t : TrS} {b : BlkD}
theorem tk_yes (h : tkOk ds slot t b = true) : tkT ds slot t b = (TrS.add t b).1 ∧ tkL ds slot t b = (TrS.add t b).2.1 ∧ tkE ds slot t b = 0 := ⟨if_pos h, if_pos h, if_pos h⟩
theorem tk_no (h : tkOk ds slot t b = false) : tkT ds slot t b = t ∧ tkL ds slot t b = [] ∧ tkE ds slot t b = 111 := ⟨if_neg (by rw [h]; decide), if_neg (by rw [h]; decide), if_neg (by rw [h]; decide)⟩
theorem tkT_good (h : TrS.Good t) : TrS.Good (tkT ds slot t b) := by
  unfold tkT; split
  · exact add_good h
  · exact h
/-- What isn't taken leaves the tree as it was. -/
theorem add_refused (h : (TrS.add t b).2.2 = false) : (TrS.add t b).1 = t ∧ (TrS.add t b).2.1 = [] := by
  obtain ⟨K, V⟩ := t
  by_cases hc : b.name = 0 ∨ TrS.has K b.name = true ∨ TrS.has V b.name = true
  · rw [add_c1 hc]; exact ⟨rfl, rfl⟩
  · cases hr : TrS.ready K b
    · rw [add_c2 hc hr] at h; cases h
    · by_cases hk : K.length < 400
      · rw [add_c4 hc hr hk] at h; cases h
      · rw [add_c3 hc hr hk]; exact ⟨rfl, rfl⟩
end
/-- The blocks that a tree finds are few of their transactions. -/
theorem getOr_txs {K : List BlkD} (h : ∀ b ∈ K, b.Right) (n : Int) : (getOr K n).txs.length ≤ 3 := by
  unfold getOr
  cases hg : TrS.get K n with
  | none => simp [BlkD.zero]
  | some b => show b.txs.length ≤ 3; exact (h b (TrS.get_some hg).1).t.1
theorem idsOf_len {K : List BlkD} (h : ∀ b ∈ K, b.Right) : ∀ p : List Int, (idsOf K p).length ≤ p.length * 3
  | [] => by simp [idsOf]
  | n :: p => by
    have h1 := idsOf_len h p
    have h2 := getOr_txs h n
    unfold idsOf at h1 ⊢
    simp only [List.flatMap_cons, List.length_append, List.length_cons, idl, List.length_map] at h1 ⊢
    omega
end Go.Proofs.Ytdoeoncmhaihbaa
namespace Go.Proofs.Ytdoeoncmhaihbaa
set_option maxRecDepth 100000
open Go.RowKit

theorem Try.stChain : St Try.prog 50 4 [.pointer none, .slice none 0 0, .int .i64 0, .int .i64 0] := St.of (by kernel_rfl) (by kernel_rfl) rfl
theorem recs_txrow {w : World} {p : Addr} {row : List Value} {d : TxD} (h1 : RowAt w p row) (h2 : TxR w row d) : RowAt w p [.int .i64 d.id, .int .i64 d.fee] := by
  obtain ⟨rfl, _⟩ := h2; exact h1
/-- &l[i] of transactions: the record itself. -/
theorem w_tidx {P : Program} {ops : Array Oper} {rest : List Oper} {o : Oper} {a : Act} {Q : Exit → Act → World → Prop} {w W0 : World} {t e : TypeId} {v : Value} {l : List TxD} (E : ElS P t e 2) (x y : Operand) (i : Nat) (hgd : o.guard = none) (ho : o.op = .indexAddr t x y) (hv : a.eval x = v) (hy : a.eval y = .int .i64 i)
    (h : Recs 2 TxR W0 v l) (he : Ext W0 w) {d : TxD} (hd : l[i]? = some d) (k : ∀ p, RowAt w p [.int .i64 d.id, .int .i64 d.fee] → wpList P ops Q rest (a.put o.dst (.pointer (some p))) w) : wpList P ops Q (o :: rest) a w := by
  have hi := (List.getElem?_eq_some_iff.1 hd).1
  have e : l[i] = d := (List.getElem?_eq_some_iff.1 hd).2
  refine w_ridx0 E x y i TxR.stays hgd ho hv hy h he hi ?_
  rintro pa row hrow _ hR
  rw [e] at hR
  exact k pa (recs_txrow (hrow.ext he) (TxR.stays _ _ _ _ hR he))

theorem path_mem {K : List BlkD} (h : TrS.Uq K) (hs : TrS.Stood K) {n x : Int} (hx : x ∈ TrS.path K n) : ∃ c ∈ K, c.name = x := by
  obtain ⟨b, hb, rfl⟩ := TrS.path_get hx
  obtain ⟨c, hc, e, _⟩ := h.path_pre hs b hb x hx
  exact ⟨c, hc, e⟩
theorem path_i64 {K : List BlkD} (h : TrS.Uq K) (hs : TrS.Stood K) {n x : Int} (hx : x ∈ TrS.path K n) : I64 x := by
  obtain ⟨c, hc, e⟩ := path_mem h hs hx
  rw [← e]; exact (h.right c hc).i64
/-- The chain at q: its tree at p, all of whose blocks are in H; its draws dv. -/
structure ChC (H : Nat → Prop) (w : World) (q p : Nat) (dv : Value) (ds : List Int) (deep slot : Int) (K V : List BlkD) : Prop where
  obj : Fs w q [.pointer (some ⟨p, 0, none⟩), dv, .int .i64 deep, .int .i64 slot]
  tr : TrW H w p K V
  dr : Ints w dv ds
  nq : ¬ H q
  nd : ∀ k, dv.ownBlock = some k → ¬ H k ∧ k ≠ q ∧ k < w.heap.size
  lt : ∀ k, H k → k < w.heap.size
  dok : DrOk ds
  dI : I64 deep
  sI : I64 slot
section
variable {H H' F : Nat → Prop} {w w' : World} {q p : Nat} {dv : Value} {ds : List Int} {deep slot slot' : Int} {K V K' V' : List BlkD}
theorem ChC.mod (h : ChC H w q p dv ds deep slot K V) (hm : Mod F w w') (hH : ∀ k, H k → ¬ F k) (hq : ¬ F q) (hd : ∀ k, dv.ownBlock = some k → ¬ F k) : ChC H w' q p dv ds deep slot K V :=
  ⟨h.obj.mod hm hq, h.tr.mod hm hH, Sl.mod h.dr hm hd, h.nq, fun k hk => ⟨(h.nd k hk).1, (h.nd k hk).2.1, Nat.lt_of_lt_of_le (h.nd k hk).2.2 hm.size⟩, fun k hk => Nat.lt_of_lt_of_le (h.lt k hk) hm.size, h.dok, h.dI, h.sI⟩
theorem ChC.ext (h : ChC H w q p dv ds deep slot K V) (he : Ext w w') : ChC H w' q p dv ds deep slot K V := h.mod (he.mod fun _ => False) (fun _ _ => id) id fun _ _ => id
/-- Its tree turned. -/
theorem ChC.add (h : ChC H w q p dv ds deep slot K V) (hU : Upd H H' w w') (hT : TrW H' w' p K' V') : ChC H' w' q p dv ds deep slot K' V' := by
  have hs := hU.size
  have lq := h.obj.lt
  have nn : ∀ k, k < w.heap.size → ¬ H k → ¬ H' k := fun k hk hn h' => (hU.sub k h').elim hn fun e => by omega
  exact ⟨h.obj.mod hU.mod h.nq, hT, Sl.mod h.dr hU.mod fun k hk => (h.nd k hk).1, nn q lq h.nq, fun k hk => ⟨nn k (h.nd k hk).2.2 (h.nd k hk).1, (h.nd k hk).2.1, Nat.lt_of_lt_of_le (h.nd k hk).2.2 hs⟩, fun k hk => (hU.sub k hk).elim (fun e => Nat.lt_of_lt_of_le (h.lt k e) hs) fun e => e.2, h.dok, h.dI, h.sI⟩
/-- Its slot turned. -/
theorem ChC.next (h : ChC H w q p dv ds deep slot K V) (hm : Mod (fun k => k = q) w w') (f : Fs w' q [.pointer (some ⟨p, 0, none⟩), dv, .int .i64 deep, .int .i64 slot']) (hs : I64 slot') : ChC H w' q p dv ds deep slot' K V :=
  ⟨f, h.tr.mod hm fun _ hk e => h.nq (e ▸ hk), Sl.mod h.dr hm fun k hk => (h.nd k hk).2.1, h.nq, fun k hk => ⟨(h.nd k hk).1, (h.nd k hk).2.1, Nat.lt_of_lt_of_le (h.nd k hk).2.2 hm.size⟩, fun k hk => Nat.lt_of_lt_of_le (h.lt k hk) hm.size, h.dok, h.dI, hs⟩
theorem ChC.uq (h : ChC H w q p dv ds deep slot K V) : TrS.Uq K := h.tr.fit.uq
theorem ChC.rights (h : ChC H w q p dv ds deep slot K V) : ∀ b ∈ K, b.Right := fun b hb => h.tr.fit.right b (List.mem_append_left _ hb)
theorem ChC.tipI (h : ChC H w q p dv ds deep slot K V) : I64 (TrS.tip K) := by
  rcases h.uq.tip.mem with ⟨h0, _⟩ | ⟨c, hc, hn⟩
  · rw [h0]; exact ⟨by omega, by omega⟩
  · rw [← hn]; exact (h.uq.right c hc).i64
end

set_option maxRecDepth 100000 in
set_option maxHeartbeats 1600000 in
theorem CNew_any {w : World} {v : Value} {ds : List Int} {deep : Int} (h0 : Ints w v ds) (hok : DrOk ds) (hd : I64 deep) :
    Calls Try.prog 9 #[v, .int .i64 deep] w fun e w' => ∃ (q p : Nat) (dv : Value) (H : Nat → Prop), e = .returned (.pointer (some ⟨q, 0, none⟩)) ∧ ChC H w' q p dv ds deep 0 [] [] ∧ Ext w w' ∧ w.heap.size ≤ q ∧ ∀ k, H k → w.heap.size ≤ k := by
  refine calls_keep ?_
  have hr := hide_ h0
  have hok' := hide_ hok
  have hd' := hide_ hd
  have hl8 := hide_ (show ds.length * 8 ≤ 140737488355328 from by have := hok.1; omega)
  clear h0 hok hd
  go_enter Try.func9, Try.ntmps9
  go_wp2_with ((first
    | (go_at_call 25; refine (New_any (w := w)).mono ?_; rintro e w1 ⟨p, G, rfl, hT0, hX, hG⟩; have hT := hT0.trim; have hTl := hide_ (show ∀ k, (G k ∧ k < w1.heap.size) → k < w1.heap.size from fun k h => And.right h); replace hG := hide_ (show ∀ k, (G k ∧ k < w1.heap.size) → w.heap.size ≤ k from fun k h => hG k (And.left h)); clear hT0)
    | (go_at_call 26; refine (IClone_any (hr.out.ext hX) hl8.out).mono ?_; rintro e w2 ⟨v2, rfl, o2, hx⟩; replace hT := hT.ext hx; have hs1 := hX.size; have hs2 := hx.size; replace hX := hX.trans hx; clear hx)
    | ((with_reducible refine at_sbuild ?_); refine w_sbuild Try.stChain [.pointer (some ⟨p, 0, none⟩), v2, .int .i64 deep, .int .i64 0] rfl rfl rfl (by intro x hx; simp at hx; rcases hx with rfl | rfl | rfl; exact ⟨by decide, rfl⟩; exact ⟨by decide, oneCell_cells (Sl.one' o2.ints)⟩; exact ⟨by decide, rfl⟩) ?_)
    | ((with_reducible refine at_box ?_); refine w_box _ [.pointer (some ⟨p, 0, none⟩), v2, .int .i64 deep, .int .i64 0] rfl rfl rfl rfl ?_; intro q w3 hq hx3 f3)
    | fail) <;> (try simp only [Act.put, List.setIfInBounds_toArray, List.set_cons_zero, List.set_cons_succ]))
  go_ret
  refine Keep.intro ⟨q, p, v2, _, rfl, ⟨f3, hT.ext hx3, (o2.ext hx3).ints, fun h => ?_, fun k hk => ?_, fun k hk => ?_, hok'.out, hd'.out, by constructor <;> omega⟩, hX.trans hx3, Nat.le_trans hX.size hq, hG.out⟩
  · have := hTl.out _ h; omega
  · have h1 := own_block_lt (g := k) o2 hk
    have h3 := hx3.size
    exact ⟨fun h => by have := hTl.out k h; omega, by omega, by omega⟩
  · have := hTl.out k hk; have h3 := hx3.size; omega

set_option maxRecDepth 100000 in
set_option maxHeartbeats 1600000 in
theorem CTree_any {H : Nat → Prop} {w : World} {q p : Nat} {dv : Value} {ds : List Int} {deep slot : Int} {K V : List BlkD} (h0 : ChC H w q p dv ds deep slot K V) :
    Calls Try.prog 29 #[.pointer (some ⟨q, 0, none⟩)] w fun e w' => e = .returned (.pointer (some ⟨p, 0, none⟩)) ∧ Ext w w' := by
  refine calls_keep ?_
  have f0 := hide_ h0.obj
  have hX := Ext.refl w
  clear h0
  go_enter Try.func29, Try.ntmps29
  go_wp2_with ((first
    | ((with_reducible refine at_field ?_); (try refine w_yes _ _ _ rfl rfl rfl ?_); refine w_field Try.stChain _ _ _ rfl rfl rfl (by omega) ?_)
    | ((with_reducible refine at_load ?_); (try refine w_yes _ _ _ rfl rfl rfl ?_); refine w_fload _ rfl rfl rfl (f0.out.ext hX) rfl (agg_of (by kernel_rfl)) ?_)
    | fail) <;> (try simp only [Act.put, List.setIfInBounds_toArray, List.set_cons_zero, List.set_cons_succ]))
  go_ret
  exact Keep.intro ⟨rfl, hX⟩
set_option maxRecDepth 100000 in
set_option maxHeartbeats 1600000 in
theorem CNext_any {H : Nat → Prop} {w : World} {q p : Nat} {dv : Value} {ds : List Int} {deep slot n : Int} {K V : List BlkD} (h0 : ChC H w q p dv ds deep slot K V) (hn : I64 n) :
    Calls Try.prog 27 #[.pointer (some ⟨q, 0, none⟩), .int .i64 n] w fun e w' => e = .returned (.tuple #[]) ∧ ChC H w' q p dv ds deep (max slot n) K V ∧ Mod (fun k => k = q) w w' := by
  refine calls_keep ?_
  have f0 := hide_ h0.obj
  have hC := hide_ h0
  have hX := Ext.refl w
  obtain ⟨m, hm0⟩ : ∃ m, max slot n = m := ⟨_, rfl⟩
  have hm := hide_ hm0
  have hI := hide_ (show I64 m from by have h1 := h0.sI; obtain ⟨a, b⟩ := h1; obtain ⟨c, d⟩ := hn; rw [← hm0]; constructor <;> omega)
  rw [hm0]
  clear h0 hm0 hn
  go_enter Try.func27, Try.ntmps27
  go_wp2_with ((first
    | ((with_reducible refine at_field ?_); (try refine w_yes _ _ _ rfl rfl rfl ?_); refine w_field Try.stChain _ _ _ rfl rfl rfl (by omega) ?_)
    | ((with_reducible refine at_load ?_); (try refine w_yes _ _ _ rfl rfl rfl ?_); refine w_fload _ rfl rfl rfl (f0.out.ext hX) rfl (agg_of (by kernel_rfl)) ?_)
    | ((with_reducible refine at_bi ?_); refine w_max _ _ m hm.out.symm rfl rfl rfl rfl ?_)
    | ((with_reducible refine at_store ?_); refine w_fstore _ _ (u := .int .i64 m) rfl rfl rfl rfl rfl f0.out (by simp) rfl rfl (by kernel_rfl) ?_; intro w6 hmd f2; clear hX)
    | fail) <;> (try simp only [Act.put, List.setIfInBounds_toArray, List.set_cons_zero, List.set_cons_succ]))
  go_end0
  exact Keep.intro ⟨rfl, hC.out.next hmd f2 hI.out, hmd⟩
set_option maxRecDepth 100000 in
set_option maxHeartbeats 1600000 in
theorem CConf_any {H : Nat → Prop} {w : World} {q p : Nat} {dv : Value} {ds : List Int} {deep slot : Int} {K V : List BlkD} (h0 : ChC H w q p dv ds deep slot K V) :
    Calls Try.prog 24 #[.pointer (some ⟨q, 0, none⟩)] w fun e w' => e = .returned (.int .i64 (backN (TrS.path K (TrS.tip K)) deep)) ∧ Ext w w' := by
  refine calls_keep ?_
  have f0 := hide_ h0.obj
  have hX := Ext.refl w
  obtain ⟨T, hT0⟩ : ∃ T, TrS.tip K = T := ⟨_, rfl⟩
  have hTI := h0.tipI
  rw [hT0] at hTI
  obtain ⟨B, hB0⟩ : ∃ B, backN (TrS.path K T) deep = B := ⟨_, rfl⟩
  have hT1 := hide_ (fun w' (h : Ext w w') => hT0 ▸ Tip_any (h0.tr.ext h))
  have hB1 := hide_ (fun w' (h : Ext w w') => hB0 ▸ Back_any (h0.tr.ext h) hTI h0.dI)
  rw [hT0, hB0]
  clear h0 hT0 hB0 hTI
  go_enter Try.func24, Try.ntmps24
  go_wp2
  refine wp_region_phx (by kernel_rfl) ?_; intro wd hxd; have F0 := f0.out.ext (hX.trans hxd)
  refine Ph.rest 0 15 (by kernel_rfl) ?_
  refine LinL.step (s := (.val (.pointer (some ⟨q, 0, none⟩)))) [(0, none)] rfl (by kernel_rfl) (op_out 0 (.pointer (some ⟨q, 0, none⟩)) rfl (.inl rfl) rfl) ?_
  refine LinL.step (s := (.val (.pointer (some ⟨q, 0, none⟩)))) [(3, some 0)] rfl (by kernel_rfl) (op_runs rfl fun σ w' hx hg => ⟨_, runs_nil (ρ := σ.eval) (w := w') (.tmp 3) rfl hg.1, rfl⟩) ?_
  refine LinL.step (s := (.val (.pointer (some ⟨q, 0, none⟩)))) [(4, some 0)] rfl (by kernel_rfl) (op_runs rfl fun σ w' hx hg => ⟨_, runs_field (ρ := σ.eval) (w := w') Try.stChain (.tmp 4) q 0 rfl hg.1 (by omega), rfl⟩) ?_
  refine LinL.step (s := (.val (.pointer (some ⟨p, 0, none⟩)))) [(5, some 0)] rfl (by kernel_rfl) (op_runs rfl fun σ w' hx hg => ⟨_, runs_fload (ρ := σ.eval) (w := w') (.tmp 5) rfl hg.1 (agg_of (by kernel_rfl) _) (F0.ext hx) rfl, rfl⟩) ?_
  refine LinL.step (s := (.val (.pointer (some ⟨q, 0, none⟩)))) [(0, none)] rfl (by kernel_rfl) (op_out 0 (.pointer (some ⟨q, 0, none⟩)) rfl (.inl rfl) rfl) ?_
  refine LinL.step (s := (.val (.pointer (some ⟨q, 0, none⟩)))) [(7, some 0)] rfl (by kernel_rfl) (op_runs rfl fun σ w' hx hg => ⟨_, runs_nil (ρ := σ.eval) (w := w') (.tmp 7) rfl hg.1, rfl⟩) ?_
  refine LinL.step (s := (.val (.pointer (some ⟨q, 0, none⟩)))) [(8, some 0)] rfl (by kernel_rfl) (op_runs rfl fun σ w' hx hg => ⟨_, runs_field (ρ := σ.eval) (w := w') Try.stChain (.tmp 8) q 0 rfl hg.1 (by omega), rfl⟩) ?_
  refine LinL.step (s := (.val (.pointer (some ⟨p, 0, none⟩)))) [(9, some 0)] rfl (by kernel_rfl) (op_runs rfl fun σ w' hx hg => ⟨_, runs_fload (ρ := σ.eval) (w := w') (.tmp 9) rfl hg.1 (agg_of (by kernel_rfl) _) (F0.ext hx) rfl, rfl⟩) ?_
  refine LinL.step (s := (.val (.int .i64 T))) [(10, some 0)] rfl (by kernel_rfl) (op_calls 40 #[(.tmp 10)] #[46] (fun σ => #[.pointer (some ⟨p, 0, none⟩)]) rfl rfl (fun _ _ => rfl) fun σ w' hx hg => ⟨by have h10 : σ.tmps.getD 10 undef = .pointer (some ⟨p, 0, none⟩) := hg.1; simp only [List.map_toArray, List.map_cons, List.map_nil, Act.eval, h10], retH (hT1.out w' (hX.trans (hxd.trans hx)))⟩) ?_
  refine LinL.step (s := (.val (.pointer (some ⟨q, 0, none⟩)))) [(0, none)] rfl (by kernel_rfl) (op_out 0 (.pointer (some ⟨q, 0, none⟩)) rfl (.inl rfl) rfl) ?_
  refine LinL.step (s := (.val (.pointer (some ⟨q, 0, none⟩)))) [(12, some 0)] rfl (by kernel_rfl) (op_runs rfl fun σ w' hx hg => ⟨_, runs_nil (ρ := σ.eval) (w := w') (.tmp 12) rfl hg.1, rfl⟩) ?_
  refine LinL.step (s := (.val (.pointer (some ⟨q, 2, none⟩)))) [(13, some 0)] rfl (by kernel_rfl) (op_runs rfl fun σ w' hx hg => ⟨_, runs_field (ρ := σ.eval) (w := w') Try.stChain (.tmp 13) q 2 rfl hg.1 (by omega), rfl⟩) ?_
  refine LinL.step (s := (.val (.int .i64 deep))) [(14, some 0)] rfl (by kernel_rfl) (op_runs rfl fun σ w' hx hg => ⟨_, runs_fload (ρ := σ.eval) (w := w') (.tmp 14) rfl hg.1 (agg_of (by kernel_rfl) _) (F0.ext hx) rfl, rfl⟩) ?_
  refine LinL.step (s := (.val (.int .i64 B))) [(6, some 9), (11, some 4), (15, some 0)] rfl (by kernel_rfl) (op_calls 39 #[(.tmp 6), (.tmp 11), (.tmp 15)] #[46, 3, 3] (fun σ => #[.pointer (some ⟨p, 0, none⟩), .int .i64 T, .int .i64 deep]) rfl rfl (fun _ _ => rfl) fun σ w' hx hg => ⟨by have h6 : σ.tmps.getD 6 undef = .pointer (some ⟨p, 0, none⟩) := hg.1; have h11 : σ.tmps.getD 11 undef = .int .i64 T := hg.2.1; have h15 : σ.tmps.getD 15 undef = .int .i64 deep := hg.2.2.1; simp only [List.map_toArray, List.map_cons, List.map_nil, Act.eval, h6, h11, h15], retH (hB1.out w' (hX.trans (hxd.trans hx)))⟩) ?_
  refine LinL.step (s := (.val (.int .i64 B))) [(16, some 0)] rfl (by kernel_rfl) (op_copy 16 0 (.val (.int .i64 B)) rfl (.inr rfl) rfl) ?_
  intro wN hxN
  simp only [Fin', List.reverse_cons, List.reverse_nil, List.nil_append, List.cons_append, List.drop_zero, List.take_succ_cons, List.take_zero]
  simp only [Act.put, List.setIfInBounds_toArray, List.set_cons_zero, List.set_cons_succ]
  replace hX := hX.trans (hxd.trans hxN)
  go_wp2
  go_ret
  exact Keep.intro ⟨rfl, hX⟩

set_option maxRecDepth 100000 in
set_option maxHeartbeats 3200000 in
theorem CTxs_any {H : Nat → Prop} {w : World} {q p : Nat} {dv : Value} {ds : List Int} {deep slot n : Int} {K V : List BlkD} (h0 : ChC H w q p dv ds deep slot K V) (hn : I64 n) :
    Calls Try.prog 23 #[.pointer (some ⟨q, 0, none⟩), .int .i64 n] w fun e w' => ∃ v', e = .returned v' ∧ OwnI w.heap.size w' v' (ids K n) ∧ Ext w w' := by
  refine calls_keep ?_
  have f0 := hide_ h0.obj
  have hT := hide_ h0.tr
  have hX := Ext.refl w
  have hn' := hide_ hn
  have hri := hide_ h0.rights
  obtain ⟨L, hL0⟩ : ∃ L, TrS.path K n = L := ⟨_, rfl⟩
  have hL := hide_ hL0
  have hL4 := hide_ (show L.length ≤ 4096 from by rw [← hL0]; exact path_len K n)
  have hLI := hide_ (show ∀ x ∈ L, I64 x from fun x hx => by
    exact path_i64 h0.uq h0.tr.fit.stood (n := n) (by rw [hL0]; exact hx))
  rw [ids, hL0]
  clear h0 hn hL0
  go_enter Try.func23, Try.ntmps23
  go_wp2_with ((first
    | (go_at_call 37; refine (Path_any (hT.out.ext hX) hn'.out).mono ?_; rintro e W1 ⟨v1, rfl, o1, hx⟩; rw [hL.out] at o1; replace o1 := hide_ o1.ints; replace hX := hX.trans hx; have hX1 := hide_ hX; clear hx)
    | ((with_reducible refine at_field ?_); (try refine w_yes _ _ _ rfl rfl rfl ?_); refine w_field Try.stChain _ _ _ rfl rfl rfl (by omega) ?_)
    | ((with_reducible refine at_load ?_); (try refine w_yes _ _ _ rfl rfl rfl ?_); refine w_fload _ rfl rfl rfl (f0.out.ext hX) rfl (agg_of (by kernel_rfl)) ?_)
    | ((with_reducible refine at_bi ?_); refine i_len _ rfl rfl (v := v1) rfl o1.out ?_)
    | fail) <;> (try simp only [Act.put, List.setIfInBounds_toArray, List.set_cons_zero, List.set_cons_succ]))
  go_loopw [5, 19] (fun u5 i wr => ∃ k : Nat, i = .int .i64 k ∧ k ≤ L.length ∧ OwnI W1.heap.size wr u5 (idsOf K (L.take k)) ∧ Ext W1 wr) (fun _ i _ => L.length - (RowKit.intOf i).toNat)
  case atStart => exact ⟨0, rfl, Nat.zero_le _, OwnI.nil _ _, Ext.refl _⟩
  case round =>
    clear hX
    obtain ⟨k, rfl, hk, ho, hY⟩ := hrel
    by_cases hge : L.length ≤ k
    · obtain rfl : k = L.length := by omega
      have t2 : decide (L.length < L.length) = false := by simp
      rw [List.take_length] at ho
      clear hge
      go_wp2
      go_ret
      exact Keep.intro ⟨_, rfl, ho.mono hX1.out.size, hX1.out.trans hY⟩
    have hlt : k < L.length := by omega
    have t2 : decide (k < L.length) = true := by simpa using hlt
    obtain ⟨m, hm0⟩ : ∃ m, L[k] = m := ⟨_, rfl⟩
    have hm := hide_ hm0
    have hmI := hide_ (hLI.out m (hm0 ▸ List.getElem_mem hlt))
    obtain ⟨b, hb0⟩ : ∃ b, getOr K m = b := ⟨_, rfl⟩
    have hb := hide_ hb0
    have hbl := hide_ (show b.txs.length ≤ 3 from hb0 ▸ getOr_txs hri.out m)
    obtain ⟨A, hA0⟩ : ∃ A, idsOf K (L.take k) = A := ⟨_, rfl⟩
    have hstep := hide_ (show idsOf K (L.take (k + 1)) = A ++ idl b.txs from by rw [idsOf_take (n := m) (by rw [List.getElem?_eq_getElem hlt, hm0]), hb0, hA0])
    have hAl := hide_ (show A.length ≤ 12288 from by
      have := idsOf_len hri.out (L.take k)
      rw [hA0, List.length_take] at this
      have := hL4.out; omega)
    rw [hA0] at ho
    have hk4 : k ≤ 4096 := by have := hL4.out; omega
    have hlt' := hide_ hlt
    clear hge hm0 hb0 hA0
    go_wp2_with ((first
      | ((with_reducible refine at_idx ?_); refine i_idx _ _ k rfl rfl rfl (o1.out.ext hY) rfl hlt'.out ?_; intro ad had; rw [hm.out] at had)
      | (go_at_call 38; refine (Get_any (hT.out.ext (hX1.out.trans hY)) hmI.out).mono ?_; rintro e w5 ⟨u, rfl, r5, hx⟩; rw [hb.out] at r5; rw [hb.out]; have hone := blk_one (a := b.slot) (b := b.miner) (c := b.var) (d := b.parent) r5.recs.one'; have hnu := hide_ (show ∀ q, u.ownBlock = some q → ¬ u5.ownBlock = some q from fun q hq e => by have h1 := r5.new q hq; have h2 := (own_block_lt (g := q) ho e).2; omega); replace r5 := r5.mono hY.size; replace ho := ho.ext hx; replace hY := hY.trans hx; clear hx)
      | ((with_reducible refine at_alloc ?_); refine w_alloc Try.stBlk rfl rfl ?_; intro g8 w2 hg2 hx2 f2)
      | ((with_reducible refine at_store ?_); refine w_astore Try.stBlk _ _ (us := bRow b u) rfl rfl rfl rfl rfl f2 rfl rfl hone ?_; intro w3 hm3 f3; replace f2 : Fs w3 g8 (bRow b u) := f3; replace hx2 := hm3.after hx2 (fun i hi => by subst hi; exact hg2); replace ho := ho.ext hx2; replace r5 := r5.ext hx2; replace hY := hY.trans hx2; clear hm3 f3 hx2 hg2 hone)
      | ((with_reducible refine at_field ?_); refine w_field Try.stBlk _ _ _ rfl rfl rfl (by omega) ?_)
      | ((with_reducible refine at_load ?_); refine w_fload _ rfl rfl rfl f2 rfl (agg_of (by kernel_rfl)) ?_)
      | ((with_reducible refine at_field ?_); (try refine w_yes _ _ _ rfl rfl rfl ?_); refine w_field Try.stChain _ _ _ rfl rfl rfl (by omega) ?_)
      | ((with_reducible refine at_load ?_); refine w_fload _ rfl rfl rfl (f0.out.ext (hX1.out.trans hY)) rfl (agg_of (by kernel_rfl)) ?_)
      | ((with_reducible refine at_bi ?_); refine w_rlen Try.elTx _ rfl rfl rfl r5.recs ?_)
      | fail) <;> (try simp only [Act.put, List.setIfInBounds_toArray, List.set_cons_zero, List.set_cons_succ]))
    go_loopw [5, 35] (fun u5 i wx => ∃ j : Nat, i = .int .i64 j ∧ j ≤ b.txs.length ∧ OwnI W1.heap.size wx u5 (A ++ idl (b.txs.take j)) ∧ OwnT W1.heap.size wx u b.txs ∧ (∀ q, u.ownBlock = some q → ¬ u5.ownBlock = some q) ∧ Ext W1 wx) (fun _ i _ => b.txs.length - (RowKit.intOf i).toNat)
    case atStart => exact ⟨0, rfl, Nat.zero_le _, by rw [List.take_zero]; simpa [idl] using ho, r5, hnu.out, hY⟩
    case round =>
      clear ho f2 hY r5 hnu
      obtain ⟨j, rfl, hj, ho, r5, hnu, hZ⟩ := hrel
      by_cases hge : b.txs.length ≤ j
      · obtain rfl : j = b.txs.length := by omega
        have t3 : decide (b.txs.length < b.txs.length) = false := by simp
        rw [List.take_length] at ho
        clear hge
        go_wp2
        go_roundw
        case rel => exact ⟨k + 1, by go_num, hlt'.out, by rw [hstep.out]; exact ho, hZ⟩
        case measure => have := hlt'.out; simp [RowKit.intOf]; omega
      have hjl : j < b.txs.length := by omega
      have t3 : decide (j < b.txs.length) = true := by simpa using hjl
      obtain ⟨t, ht0⟩ : ∃ t, b.txs[j]? = some t := ⟨_, List.getElem?_eq_getElem hjl⟩
      have ht := hide_ ht0
      have hst2 := hide_ (show A ++ idl (b.txs.take (j + 1)) = (A ++ idl (b.txs.take j)) ++ [t.id] from by rw [idl_take ht0, List.append_assoc])
      obtain ⟨B, hB0⟩ : ∃ B, A ++ idl (b.txs.take j) = B := ⟨_, rfl⟩
      have hBl := hide_ (show (B.length + [t.id].length) * 8 ≤ 140737488355328 from by
        rw [← hB0, List.length_append, idl, List.length_map, List.length_take]
        have := hAl.out; have := hbl.out; simp; omega)
      rw [hB0] at ho hst2
      have hj3 : j ≤ 3 := by have := hbl.out; omega
      have hjl' := hide_ hjl
      clear hge ht0 hB0
      go_wp2_with ((first
        | ((with_reducible refine at_idx ?_); refine w_tidx Try.elTx _ _ j rfl rfl rfl rfl r5.recs (Ext.refl _) ht.out ?_; intro pa hrow; replace hrow := hide_ hrow)
        | ((with_reducible refine at_load ?_); refine w_pload Try.stTx _ rfl rfl rfl hrow.out rfl ?_)
        | ((with_reducible refine at_alloc ?_); refine w_alloc Try.stTx rfl rfl ?_; intro g11 w12 hg12 hx2 f12)
        | ((with_reducible refine at_store ?_); refine w_astore Try.stTx _ _ (us := [.int .i64 t.id, .int .i64 t.fee]) rfl rfl rfl rfl rfl f12 rfl rfl (TxD.one t) ?_; intro w13 hm3 f13; replace f12 : Fs w13 g11 [.int .i64 t.id, .int .i64 t.fee] := f13; replace hx2 := hm3.after hx2 (fun i hi => by subst hi; exact hg12); replace ho := ho.ext hx2; replace r5 := r5.ext hx2; replace hZ := hZ.trans hx2; clear hm3 f13 hx2 hrow hg12)
        | ((with_reducible refine at_field ?_); refine w_field Try.stTx _ _ _ rfl rfl rfl (by omega) ?_)
        | ((with_reducible refine at_load ?_); refine w_fload _ rfl rfl rfl f12 rfl (agg_of (by kernel_rfl)) ?_)
        | ((with_reducible refine at_lit ?_); refine w_new Try.elI (i64s [t.id]) rfl rfl rfl (i64s_cells _) rfl (by omega) ?_; intro v3 w5 hx3 o3; replace o3 : OwnI _ w5 v3 [t.id] := o3; replace o3 := o3.ints; replace ho := ho.ext hx3; replace r5 := r5.ext hx3; replace hZ := hZ.trans hx3; clear hx3 f12)
        | ((with_reducible refine at_bi ?_); refine appi _ _ rfl rfl rfl rfl ho o3 hBl.out hZ.size ?_; intro v9 w9 o9 hb9 hg9 hg9'; have hnu9 := hide_ (show ∀ q, u.ownBlock = some q → ¬ v9.ownBlock = some q from fun q hq e => by have h1 := r5.lt hq; rcases hg9' with h2 | h2 <;> rw [h2] at e; exact hnu q hq e; injection e with e; omega); replace r5 := r5.mod (Mod.grown hg9) hnu; replace hZ := hZ.trans' hb9; replace ho := o9; clear hg9' hg9 hb9 o9 o3)
        | fail) <;> (try simp only [Act.put, List.setIfInBounds_toArray, List.set_cons_zero, List.set_cons_succ]))
      go_roundw
      case rel => exact ⟨j + 1, by go_num, hjl'.out, by rw [hst2.out]; exact ho, r5, hnu9.out, hZ⟩
      case measure => have := hjl'.out; simp [RowKit.intOf]; omega
end Go.Proofs.Ytdoeoncmhaihbaa
namespace Go.Proofs.Ytdoeoncmhaihbaa
set_option maxRecDepth 100000
open Go.RowKit

end Go.Proofs.Ytdoeoncmhaihbaa
namespace Go.Proofs.Ytdoeoncmhaihbaa
set_option maxRecDepth 100000
open Go.RowKit

theorem Upd.thenExt {F F' : Nat → Prop} {a b c : World} (h : Upd F F' a b) (he : Ext b c) : Upd F F' a c := h.trans (Upd.ofExt he F')
/-- An owned slice of transactions doesn't lie in a block of five cells. -/
theorem OwnT.ne_fs {lo : Nat} {w : World} {v : Value} {l : List TxD} {g : Nat} {a b c d e : Value} (h : OwnT lo w v l) (f : Fs w g [a, b, c, d, e]) : ∀ k, v.ownBlock = some k → ¬ k = g := by
  rintro k hk rfl
  obtain ⟨_, hnil | ⟨g', cap, cur, hv, _, hh, _, _, h3, _⟩⟩ := h.own.own
  · rw [hnil.1] at hk; cases hk
  · rw [hv] at hk
    have e1 : g' = k := by simpa [Value.ownBlock] using hk
    subst e1
    obtain ⟨e', f⟩ := f
    rw [hh] at f
    injection f with f
    injection f with f
    rw [f] at h3
    simp at h3
    omega
/-- An owned slice of transactions in a region. -/
def Sp.ot (lo : Nat) (l : List TxD) : Sp := .any (fun v w => OwnT lo w v l) fun _ _ _ h he => h.ext he
theorem retT {f : FuncId} {args : Array Value} {w : World} {lo : Nat} {l : List TxD} (hlo : lo ≤ w.heap.size) (h : Calls Try.prog f args w fun e w' => ∃ v', e = .returned v' ∧ OwnT w.heap.size w' v' l ∧ Ext w w') : Calls Try.prog f args w fun e w' => ∃ v', e = .returned v' ∧ Ext w w' ∧ Sp.p (Sp.ot lo l) v' w' := by
  refine h.mono ?_
  rintro e w' ⟨v', rfl, ho, hx⟩
  exact ⟨_, rfl, hx, ho.mono hlo⟩
theorem Add_r {G : Nat → Prop} {w : World} {p : Nat} {K V K2 V2 : List BlkD} {Ln : List Int} {ok : Bool} {b : BlkD} {u : Value} (hR : TrS.add ⟨K, V⟩ b = (⟨K2, V2⟩, Ln, ok)) (h00 : TrW G w p K V) (hV : V.length ≤ 16) (hu0 : Recs 2 TxR w u b.txs) (hraw : b.Raw) :
    Calls Try.prog 42 #[.pointer (some ⟨p, 0, none⟩), .agg #[.int .i64 b.slot, .int .i64 b.miner, .int .i64 b.var, .int .i64 b.parent, u]] w fun e w' => ∃ (v' : Value) (G' : Nat → Prop), e = .returned (.tuple #[v', .bool ok]) ∧
      OwnI w.heap.size w' v' Ln ∧ TrW G' w' p K2 V2 ∧ Upd G G' w w' := by
  have := Add_any h00 hV hu0 hraw
  rw [hR] at this; exact this

set_option maxRecDepth 100000 in
set_option maxHeartbeats 3200000 in
theorem CTake_any {H : Nat → Prop} {w : World} {q p : Nat} {dv : Value} {ds : List Int} {deep slot : Int} {K V : List BlkD} {b : BlkD} {u : Value} (h0 : ChC H w q p dv ds deep slot K V) (hV16 : V.length ≤ 16) (hu0 : Recs 2 TxR w u b.txs) (hraw0 : b.Raw) :
    Calls Try.prog 28 #[.pointer (some ⟨q, 0, none⟩), .agg (bRow b u).toArray] w fun e w' => ∃ (v' : Value) (H' : Nat → Prop), e = .returned (.tuple #[v', .int .i64 (tkE ds slot ⟨K, V⟩ b)]) ∧
      OwnI w.heap.size w' v' (tkL ds slot ⟨K, V⟩ b) ∧ ChC H' w' q p dv ds deep slot (tkT ds slot ⟨K, V⟩ b).known (tkT ds slot ⟨K, V⟩ b).wait ∧ Upd H H' w w' := by
  refine calls_keep ?_
  have f0 := hide_ h0.obj
  have hC := hide_ h0
  have hu := hide_ hu0
  have hraw := hide_ hraw0
  have hV := hide_ hV16
  obtain ⟨qw, hq0⟩ : ∃ qw, win ds b.slot b.miner = qw := ⟨_, rfl⟩
  have hW := hide_ (fun w' (h : Ext w w') => hq0 ▸ Wins_any (s := b.slot) (n := b.miner) h0.dok (h0.dr.ext h))
  clear h0 hu0 hraw0 hV16
  cases t1 : decide (slot < b.slot)
  rotate_left
  · obtain ⟨e1, e2, e3⟩ := tk_no (t := ⟨K, V⟩) (show tkOk ds slot ⟨K, V⟩ b = false from by unfold tkOk; rw [t1]; rfl)
    rw [e1, e2, e3]
    clear e1 e2 e3 hq0
    go_enter Try.func28, Try.ntmps28
    go_wp2_with ((first
      | ((with_reducible refine at_box ?_); refine w_box _ (bRow b u) rfl rfl rfl rfl ?_; intro g3 w1 hg3 hX f3; replace hg3 := hide_ hg3)
      | fail) <;> (try simp only [Act.put, List.setIfInBounds_toArray, List.set_cons_zero, List.set_cons_succ]))
    refine wp_region_phx (by kernel_rfl) ?_; intro wd hxd; have F0 := f0.out.ext (hX.trans hxd); have F3 := f3.ext hxd
    refine Ph.rest 0 19 (by kernel_rfl) ?_
    refine LinL.step (s := (.val (.pointer (some ⟨g3, 0, none⟩)))) [(3, none)] rfl (by kernel_rfl) (op_runs rfl fun σ w' hx hg => ⟨_, runs_field (ρ := σ.eval) (w := w') Try.stBlk (.tmp 3) g3 0 rfl hg.1 (by omega), rfl⟩) ?_
    refine LinL.step (s := (.val (.int .i64 b.slot))) [(8, some 0)] rfl (by kernel_rfl) (op_runs rfl fun σ w' hx hg => ⟨_, runs_fload (ρ := σ.eval) (w := w') (.tmp 8) rfl hg.1 (agg_of (by kernel_rfl) _) (F3.ext hx) rfl, rfl⟩) ?_
    refine LinL.step (s := (.val (.pointer (some ⟨q, 0, none⟩)))) [(0, none)] rfl (by kernel_rfl) (op_out 0 (.pointer (some ⟨q, 0, none⟩)) rfl (.inl rfl) rfl) ?_
    refine LinL.step (s := (.val (.pointer (some ⟨q, 0, none⟩)))) [(10, some 0)] rfl (by kernel_rfl) (op_runs rfl fun σ w' hx hg => ⟨_, runs_nil (ρ := σ.eval) (w := w') (.tmp 10) rfl hg.1, rfl⟩) ?_
    refine LinL.step (s := (.val (.pointer (some ⟨q, 3, none⟩)))) [(11, some 0)] rfl (by kernel_rfl) (op_runs rfl fun σ w' hx hg => ⟨_, runs_field (ρ := σ.eval) (w := w') Try.stChain (.tmp 11) q 3 rfl hg.1 (by omega), rfl⟩) ?_
    refine LinL.step (s := (.val (.int .i64 slot))) [(12, some 0)] rfl (by kernel_rfl) (op_runs rfl fun σ w' hx hg => ⟨_, runs_fload (ρ := σ.eval) (w := w') (.tmp 12) rfl hg.1 (agg_of (by kernel_rfl) _) (F0.ext hx) rfl, rfl⟩) ?_
    refine LinL.step (s := (.val (.bool true))) [(9, some 4), (13, some 0)] rfl (by kernel_rfl) (op_runs rfl fun σ w' hx hg => ⟨(.bool true), by have h9 : σ.tmps.getD 9 undef = .int .i64 b.slot := hg.1; have h13 : σ.tmps.getD 13 undef = .int .i64 slot := hg.2.1; unfold Runs execOp; simp [Act.eval, h9, h13, go_sem, t1], rfl⟩) ?_
    refine LinL.step (s := (.val (.bool true))) [(14, some 0)] rfl (by kernel_rfl) (op_copy 14 0 (.val (.bool true)) rfl (.inl rfl) rfl) ?_
    refine LinL.step (s := .val undef) [(0, none), (15, some 0)] rfl (by kernel_rfl) (op_no (reads := [(0, none)]) 7 15 0 false rfl rfl rfl) ?_
    refine LinL.step (s := .val undef) [(16, some 0), (15, some 1)] rfl (by kernel_rfl) (op_no (reads := [(16, some 0)]) 7 15 1 false rfl rfl rfl) ?_
    refine LinL.step (s := .val undef) [(17, some 0), (15, some 2)] rfl (by kernel_rfl) (op_no (reads := [(17, some 0)]) 7 15 2 false rfl rfl rfl) ?_
    refine LinL.step (s := .val undef) [(18, some 0), (15, some 3)] rfl (by kernel_rfl) (op_no (reads := [(18, some 0)]) 7 15 3 false rfl rfl rfl) ?_
    refine LinL.step (s := .val undef) [(3, none), (15, some 4)] rfl (by kernel_rfl) (op_no (reads := [(3, none)]) 7 15 4 false rfl rfl rfl) ?_
    refine LinL.step (s := .val undef) [(20, some 0), (15, some 5)] rfl (by kernel_rfl) (op_no (reads := [(20, some 0)]) 7 15 5 false rfl rfl rfl) ?_
    refine LinL.step (s := .val undef) [(3, none), (15, some 6)] rfl (by kernel_rfl) (op_no (reads := [(3, none)]) 7 15 6 false rfl rfl rfl) ?_
    refine LinL.step (s := .val undef) [(22, some 0), (15, some 7)] rfl (by kernel_rfl) (op_no (reads := [(22, some 0)]) 7 15 7 false rfl rfl rfl) ?_
    refine LinL.step (s := .val undef) [(19, some 4), (21, some 2), (23, some 0), (15, some 8)] rfl (by kernel_rfl) (op_no (reads := [(19, some 4), (21, some 2), (23, some 0)]) 7 15 8 false rfl rfl rfl) ?_
    refine LinL.step (s := .val undef) [(24, some 0), (15, some 9)] rfl (by kernel_rfl) (op_no (reads := [(24, some 0)]) 7 15 9 false rfl rfl rfl) ?_
    refine LinL.step (s := (.val (.bool true))) [(15, some 10), (25, some 0)] rfl (by kernel_rfl) (op_runs rfl fun σ w' hx hg => ⟨_, runs_pick_t (ρ := σ.eval) (w := w') (.tmp 15) (.const (.bool true)) (.tmp 25) rfl hg.1 rfl, rfl⟩) ?_
    intro wN hxN
    simp only [Fin', List.reverse_cons, List.reverse_nil, List.nil_append, List.cons_append, List.drop_zero, List.take_succ_cons, List.take_zero]
    simp only [Act.put, List.setIfInBounds_toArray, List.set_cons_zero, List.set_cons_succ]
    replace hX := hX.trans (hxd.trans hxN)
    clear F0 F3 hxd hxN
    go_wp2
    go_ret2
    exact Keep.intro ⟨_, H, rfl, OwnI.nil _ _, hC.out.ext hX, Upd.ofExt hX H⟩
  cases qw
  · obtain ⟨e1, e2, e3⟩ := tk_no (t := ⟨K, V⟩) (show tkOk ds slot ⟨K, V⟩ b = false from by unfold tkOk; rw [t1, hq0]; rfl)
    rw [e1, e2, e3]
    clear e1 e2 e3 hq0
    go_enter Try.func28, Try.ntmps28
    go_wp2_with ((first
      | ((with_reducible refine at_box ?_); refine w_box _ (bRow b u) rfl rfl rfl rfl ?_; intro g3 w1 hg3 hX f3; replace hg3 := hide_ hg3)
      | fail) <;> (try simp only [Act.put, List.setIfInBounds_toArray, List.set_cons_zero, List.set_cons_succ]))
    refine wp_region_phx (by kernel_rfl) ?_; intro wd hxd; have F0 := f0.out.ext (hX.trans hxd); have F3 := f3.ext hxd
    refine Ph.rest 0 19 (by kernel_rfl) ?_
    refine LinL.step (s := (.val (.pointer (some ⟨g3, 0, none⟩)))) [(3, none)] rfl (by kernel_rfl) (op_runs rfl fun σ w' hx hg => ⟨_, runs_field (ρ := σ.eval) (w := w') Try.stBlk (.tmp 3) g3 0 rfl hg.1 (by omega), rfl⟩) ?_
    refine LinL.step (s := (.val (.int .i64 b.slot))) [(8, some 0)] rfl (by kernel_rfl) (op_runs rfl fun σ w' hx hg => ⟨_, runs_fload (ρ := σ.eval) (w := w') (.tmp 8) rfl hg.1 (agg_of (by kernel_rfl) _) (F3.ext hx) rfl, rfl⟩) ?_
    refine LinL.step (s := (.val (.pointer (some ⟨q, 0, none⟩)))) [(0, none)] rfl (by kernel_rfl) (op_out 0 (.pointer (some ⟨q, 0, none⟩)) rfl (.inl rfl) rfl) ?_
    refine LinL.step (s := (.val (.pointer (some ⟨q, 0, none⟩)))) [(10, some 0)] rfl (by kernel_rfl) (op_runs rfl fun σ w' hx hg => ⟨_, runs_nil (ρ := σ.eval) (w := w') (.tmp 10) rfl hg.1, rfl⟩) ?_
    refine LinL.step (s := (.val (.pointer (some ⟨q, 3, none⟩)))) [(11, some 0)] rfl (by kernel_rfl) (op_runs rfl fun σ w' hx hg => ⟨_, runs_field (ρ := σ.eval) (w := w') Try.stChain (.tmp 11) q 3 rfl hg.1 (by omega), rfl⟩) ?_
    refine LinL.step (s := (.val (.int .i64 slot))) [(12, some 0)] rfl (by kernel_rfl) (op_runs rfl fun σ w' hx hg => ⟨_, runs_fload (ρ := σ.eval) (w := w') (.tmp 12) rfl hg.1 (agg_of (by kernel_rfl) _) (F0.ext hx) rfl, rfl⟩) ?_
    refine LinL.step (s := (.val (.bool false))) [(9, some 4), (13, some 0)] rfl (by kernel_rfl) (op_runs rfl fun σ w' hx hg => ⟨(.bool false), by have h9 : σ.tmps.getD 9 undef = .int .i64 b.slot := hg.1; have h13 : σ.tmps.getD 13 undef = .int .i64 slot := hg.2.1; unfold Runs execOp; simp [Act.eval, h9, h13, go_sem, t1], rfl⟩) ?_
    refine LinL.step (s := (.val (.bool false))) [(14, some 0)] rfl (by kernel_rfl) (op_copy 14 0 (.val (.bool false)) rfl (.inl rfl) rfl) ?_
    refine LinL.step (s := (.val (.pointer (some ⟨q, 0, none⟩)))) [(0, none), (15, some 0)] rfl (by kernel_rfl) (op_yes (reads := [(0, none)]) 7 15 0 false rfl rfl rfl (op_out 0 (.pointer (some ⟨q, 0, none⟩)) rfl (.inl rfl) rfl)) ?_
    refine LinL.step (s := (.val (.pointer (some ⟨q, 0, none⟩)))) [(16, some 0), (15, some 1)] rfl (by kernel_rfl) (op_yes (reads := [(16, some 0)]) 7 15 1 false rfl rfl rfl (op_runs rfl fun σ w' hx hg => ⟨_, runs_nil (ρ := σ.eval) (w := w') (.tmp 16) rfl hg.1, rfl⟩)) ?_
    refine LinL.step (s := (.val (.pointer (some ⟨q, 1, none⟩)))) [(17, some 0), (15, some 2)] rfl (by kernel_rfl) (op_yes (reads := [(17, some 0)]) 7 15 2 false rfl rfl rfl (op_runs rfl fun σ w' hx hg => ⟨_, runs_field (ρ := σ.eval) (w := w') Try.stChain (.tmp 17) q 1 rfl hg.1 (by omega), rfl⟩)) ?_
    refine LinL.step (s := (.val (dv))) [(18, some 0), (15, some 3)] rfl (by kernel_rfl) (op_yes (reads := [(18, some 0)]) 7 15 3 false rfl rfl rfl (op_runs rfl fun σ w' hx hg => ⟨_, runs_fload (ρ := σ.eval) (w := w') (.tmp 18) rfl hg.1 (agg_of (by kernel_rfl) _) (F0.ext hx) rfl, rfl⟩)) ?_
    refine LinL.step (s := (.val (.pointer (some ⟨g3, 0, none⟩)))) [(3, none), (15, some 4)] rfl (by kernel_rfl) (op_yes (reads := [(3, none)]) 7 15 4 false rfl rfl rfl (op_runs rfl fun σ w' hx hg => ⟨_, runs_field (ρ := σ.eval) (w := w') Try.stBlk (.tmp 3) g3 0 rfl hg.1 (by omega), rfl⟩)) ?_
    refine LinL.step (s := (.val (.int .i64 b.slot))) [(20, some 0), (15, some 5)] rfl (by kernel_rfl) (op_yes (reads := [(20, some 0)]) 7 15 5 false rfl rfl rfl (op_runs rfl fun σ w' hx hg => ⟨_, runs_fload (ρ := σ.eval) (w := w') (.tmp 20) rfl hg.1 (agg_of (by kernel_rfl) _) (F3.ext hx) rfl, rfl⟩)) ?_
    refine LinL.step (s := (.val (.pointer (some ⟨g3, 1, none⟩)))) [(3, none), (15, some 6)] rfl (by kernel_rfl) (op_yes (reads := [(3, none)]) 7 15 6 false rfl rfl rfl (op_runs rfl fun σ w' hx hg => ⟨_, runs_field (ρ := σ.eval) (w := w') Try.stBlk (.tmp 3) g3 1 rfl hg.1 (by omega), rfl⟩)) ?_
    refine LinL.step (s := (.val (.int .i64 b.miner))) [(22, some 0), (15, some 7)] rfl (by kernel_rfl) (op_yes (reads := [(22, some 0)]) 7 15 7 false rfl rfl rfl (op_runs rfl fun σ w' hx hg => ⟨_, runs_fload (ρ := σ.eval) (w := w') (.tmp 22) rfl hg.1 (agg_of (by kernel_rfl) _) (F3.ext hx) rfl, rfl⟩)) ?_
    refine LinL.step (s := (.val (.bool false))) [(19, some 4), (21, some 2), (23, some 0), (15, some 8)] rfl (by kernel_rfl) (op_yes (reads := [(19, some 4), (21, some 2), (23, some 0)]) 7 15 8 false rfl rfl rfl (op_calls 41 #[(.tmp 19), (.tmp 21), (.tmp 23)] #[25, 3, 3] (fun σ => #[dv, .int .i64 b.slot, .int .i64 b.miner]) rfl rfl (fun _ _ => rfl) fun σ w' hx hg => ⟨by have h19 : σ.tmps.getD 19 undef = dv := hg.1; have h21 : σ.tmps.getD 21 undef = .int .i64 b.slot := hg.2.1; have h23 : σ.tmps.getD 23 undef = .int .i64 b.miner := hg.2.2.1; simp only [List.map_toArray, List.map_cons, List.map_nil, Act.eval, h19, h21, h23], retH (hW.out w' (hX.trans (hxd.trans hx)))⟩)) ?_
    refine LinL.step (s := (.val (.bool true))) [(24, some 0), (15, some 9)] rfl (by kernel_rfl) (op_yes (reads := [(24, some 0)]) 7 15 9 false rfl rfl rfl (op_runs rfl fun σ w' hx hg => ⟨(.bool true), by have h24 : σ.tmps.getD 24 undef = .bool false := hg.1; unfold Runs execOp; simp [Act.eval, h24, go_sem], rfl⟩)) ?_
    refine LinL.step (s := (.val (.bool true))) [(15, some 10), (25, some 0)] rfl (by kernel_rfl) (op_runs rfl fun σ w' hx hg => ⟨_, runs_pick_f (ρ := σ.eval) (w := w') (.tmp 15) (.const (.bool true)) (.tmp 25) rfl hg.1 hg.2.1, rfl⟩) ?_
    intro wN hxN
    simp only [Fin', List.reverse_cons, List.reverse_nil, List.nil_append, List.cons_append, List.drop_zero, List.take_succ_cons, List.take_zero]
    simp only [Act.put, List.setIfInBounds_toArray, List.set_cons_zero, List.set_cons_succ]
    replace hX := hX.trans (hxd.trans hxN)
    clear F0 F3 hxd hxN
    go_wp2
    go_ret2
    exact Keep.intro ⟨_, H, rfl, OwnI.nil _ _, hC.out.ext hX, Upd.ofExt hX H⟩
  obtain ⟨⟨⟨K2, V2⟩, Ln, ok⟩, hR0⟩ : ∃ R, TrS.add ⟨K, V⟩ b = R := ⟨_, rfl⟩
  have hR := hide_ hR0
  have hok : tkOk ds slot ⟨K, V⟩ b = ok := by unfold tkOk; rw [t1, hq0, hR0]; rfl
  cases ok
  · obtain ⟨e1, e2, e3⟩ := tk_no hok
    have hsame := hide_ (show K2 = K ∧ V2 = V from by
      have := add_refused (t := ⟨K, V⟩) (b := b) (by rw [hR0])
      rw [hR0] at this
      have h1 := this.1
      injection h1 with h1 h2
      exact ⟨h1, h2⟩)
    rw [e1, e2, e3]
    clear e1 e2 e3 hq0 hR0 hok
    go_enter Try.func28, Try.ntmps28
    go_wp2_with ((first
      | ((with_reducible refine at_box ?_); refine w_box _ (bRow b u) rfl rfl rfl rfl ?_; intro g3 w1 hg3 hX f3; replace hg3 := hide_ hg3)
      | fail) <;> (try simp only [Act.put, List.setIfInBounds_toArray, List.set_cons_zero, List.set_cons_succ]))
    refine wp_region_phx (by kernel_rfl) ?_; intro wd hxd; have F0 := f0.out.ext (hX.trans hxd); have F3 := f3.ext hxd
    refine Ph.rest 0 19 (by kernel_rfl) ?_
    refine LinL.step (s := (.val (.pointer (some ⟨g3, 0, none⟩)))) [(3, none)] rfl (by kernel_rfl) (op_runs rfl fun σ w' hx hg => ⟨_, runs_field (ρ := σ.eval) (w := w') Try.stBlk (.tmp 3) g3 0 rfl hg.1 (by omega), rfl⟩) ?_
    refine LinL.step (s := (.val (.int .i64 b.slot))) [(8, some 0)] rfl (by kernel_rfl) (op_runs rfl fun σ w' hx hg => ⟨_, runs_fload (ρ := σ.eval) (w := w') (.tmp 8) rfl hg.1 (agg_of (by kernel_rfl) _) (F3.ext hx) rfl, rfl⟩) ?_
    refine LinL.step (s := (.val (.pointer (some ⟨q, 0, none⟩)))) [(0, none)] rfl (by kernel_rfl) (op_out 0 (.pointer (some ⟨q, 0, none⟩)) rfl (.inl rfl) rfl) ?_
    refine LinL.step (s := (.val (.pointer (some ⟨q, 0, none⟩)))) [(10, some 0)] rfl (by kernel_rfl) (op_runs rfl fun σ w' hx hg => ⟨_, runs_nil (ρ := σ.eval) (w := w') (.tmp 10) rfl hg.1, rfl⟩) ?_
    refine LinL.step (s := (.val (.pointer (some ⟨q, 3, none⟩)))) [(11, some 0)] rfl (by kernel_rfl) (op_runs rfl fun σ w' hx hg => ⟨_, runs_field (ρ := σ.eval) (w := w') Try.stChain (.tmp 11) q 3 rfl hg.1 (by omega), rfl⟩) ?_
    refine LinL.step (s := (.val (.int .i64 slot))) [(12, some 0)] rfl (by kernel_rfl) (op_runs rfl fun σ w' hx hg => ⟨_, runs_fload (ρ := σ.eval) (w := w') (.tmp 12) rfl hg.1 (agg_of (by kernel_rfl) _) (F0.ext hx) rfl, rfl⟩) ?_
    refine LinL.step (s := (.val (.bool false))) [(9, some 4), (13, some 0)] rfl (by kernel_rfl) (op_runs rfl fun σ w' hx hg => ⟨(.bool false), by have h9 : σ.tmps.getD 9 undef = .int .i64 b.slot := hg.1; have h13 : σ.tmps.getD 13 undef = .int .i64 slot := hg.2.1; unfold Runs execOp; simp [Act.eval, h9, h13, go_sem, t1], rfl⟩) ?_
    refine LinL.step (s := (.val (.bool false))) [(14, some 0)] rfl (by kernel_rfl) (op_copy 14 0 (.val (.bool false)) rfl (.inl rfl) rfl) ?_
    refine LinL.step (s := (.val (.pointer (some ⟨q, 0, none⟩)))) [(0, none), (15, some 0)] rfl (by kernel_rfl) (op_yes (reads := [(0, none)]) 7 15 0 false rfl rfl rfl (op_out 0 (.pointer (some ⟨q, 0, none⟩)) rfl (.inl rfl) rfl)) ?_
    refine LinL.step (s := (.val (.pointer (some ⟨q, 0, none⟩)))) [(16, some 0), (15, some 1)] rfl (by kernel_rfl) (op_yes (reads := [(16, some 0)]) 7 15 1 false rfl rfl rfl (op_runs rfl fun σ w' hx hg => ⟨_, runs_nil (ρ := σ.eval) (w := w') (.tmp 16) rfl hg.1, rfl⟩)) ?_
    refine LinL.step (s := (.val (.pointer (some ⟨q, 1, none⟩)))) [(17, some 0), (15, some 2)] rfl (by kernel_rfl) (op_yes (reads := [(17, some 0)]) 7 15 2 false rfl rfl rfl (op_runs rfl fun σ w' hx hg => ⟨_, runs_field (ρ := σ.eval) (w := w') Try.stChain (.tmp 17) q 1 rfl hg.1 (by omega), rfl⟩)) ?_
    refine LinL.step (s := (.val (dv))) [(18, some 0), (15, some 3)] rfl (by kernel_rfl) (op_yes (reads := [(18, some 0)]) 7 15 3 false rfl rfl rfl (op_runs rfl fun σ w' hx hg => ⟨_, runs_fload (ρ := σ.eval) (w := w') (.tmp 18) rfl hg.1 (agg_of (by kernel_rfl) _) (F0.ext hx) rfl, rfl⟩)) ?_
    refine LinL.step (s := (.val (.pointer (some ⟨g3, 0, none⟩)))) [(3, none), (15, some 4)] rfl (by kernel_rfl) (op_yes (reads := [(3, none)]) 7 15 4 false rfl rfl rfl (op_runs rfl fun σ w' hx hg => ⟨_, runs_field (ρ := σ.eval) (w := w') Try.stBlk (.tmp 3) g3 0 rfl hg.1 (by omega), rfl⟩)) ?_
    refine LinL.step (s := (.val (.int .i64 b.slot))) [(20, some 0), (15, some 5)] rfl (by kernel_rfl) (op_yes (reads := [(20, some 0)]) 7 15 5 false rfl rfl rfl (op_runs rfl fun σ w' hx hg => ⟨_, runs_fload (ρ := σ.eval) (w := w') (.tmp 20) rfl hg.1 (agg_of (by kernel_rfl) _) (F3.ext hx) rfl, rfl⟩)) ?_
    refine LinL.step (s := (.val (.pointer (some ⟨g3, 1, none⟩)))) [(3, none), (15, some 6)] rfl (by kernel_rfl) (op_yes (reads := [(3, none)]) 7 15 6 false rfl rfl rfl (op_runs rfl fun σ w' hx hg => ⟨_, runs_field (ρ := σ.eval) (w := w') Try.stBlk (.tmp 3) g3 1 rfl hg.1 (by omega), rfl⟩)) ?_
    refine LinL.step (s := (.val (.int .i64 b.miner))) [(22, some 0), (15, some 7)] rfl (by kernel_rfl) (op_yes (reads := [(22, some 0)]) 7 15 7 false rfl rfl rfl (op_runs rfl fun σ w' hx hg => ⟨_, runs_fload (ρ := σ.eval) (w := w') (.tmp 22) rfl hg.1 (agg_of (by kernel_rfl) _) (F3.ext hx) rfl, rfl⟩)) ?_
    refine LinL.step (s := (.val (.bool true))) [(19, some 4), (21, some 2), (23, some 0), (15, some 8)] rfl (by kernel_rfl) (op_yes (reads := [(19, some 4), (21, some 2), (23, some 0)]) 7 15 8 false rfl rfl rfl (op_calls 41 #[(.tmp 19), (.tmp 21), (.tmp 23)] #[25, 3, 3] (fun σ => #[dv, .int .i64 b.slot, .int .i64 b.miner]) rfl rfl (fun _ _ => rfl) fun σ w' hx hg => ⟨by have h19 : σ.tmps.getD 19 undef = dv := hg.1; have h21 : σ.tmps.getD 21 undef = .int .i64 b.slot := hg.2.1; have h23 : σ.tmps.getD 23 undef = .int .i64 b.miner := hg.2.2.1; simp only [List.map_toArray, List.map_cons, List.map_nil, Act.eval, h19, h21, h23], retH (hW.out w' (hX.trans (hxd.trans hx)))⟩)) ?_
    refine LinL.step (s := (.val (.bool false))) [(24, some 0), (15, some 9)] rfl (by kernel_rfl) (op_yes (reads := [(24, some 0)]) 7 15 9 false rfl rfl rfl (op_runs rfl fun σ w' hx hg => ⟨(.bool false), by have h24 : σ.tmps.getD 24 undef = .bool true := hg.1; unfold Runs execOp; simp [Act.eval, h24, go_sem], rfl⟩)) ?_
    refine LinL.step (s := (.val (.bool false))) [(15, some 10), (25, some 0)] rfl (by kernel_rfl) (op_runs rfl fun σ w' hx hg => ⟨_, runs_pick_f (ρ := σ.eval) (w := w') (.tmp 15) (.const (.bool true)) (.tmp 25) rfl hg.1 hg.2.1, rfl⟩) ?_
    intro wN hxN
    simp only [Fin', List.reverse_cons, List.reverse_nil, List.nil_append, List.cons_append, List.drop_zero, List.take_succ_cons, List.take_zero]
    simp only [Act.put, List.setIfInBounds_toArray, List.set_cons_zero, List.set_cons_succ]
    replace hX := hX.trans (hxd.trans hxN)
    replace f3 := f3.ext (hxd.trans hxN)
    clear F0 F3 hxd hxN
    go_wp2
    refine wp_region_phx (by kernel_rfl) ?_; intro wd hxd; have F0 := f0.out.ext (hX.trans hxd); have F3 := f3.ext hxd
    refine Ph.gate 0 5 (by kernel_rfl) ?_
    refine LinL.step (s := (.val (.pointer (some ⟨q, 0, none⟩)))) [(0, none)] rfl (by kernel_rfl) (op_out 0 (.pointer (some ⟨q, 0, none⟩)) rfl (.inl rfl) rfl) ?_
    refine LinL.step (s := (.val (.pointer (some ⟨q, 0, none⟩)))) [(28, some 0)] rfl (by kernel_rfl) (op_runs rfl fun σ w' hx hg => ⟨_, runs_nil (ρ := σ.eval) (w := w') (.tmp 28) rfl hg.1, rfl⟩) ?_
    refine LinL.step (s := (.val (.pointer (some ⟨q, 0, none⟩)))) [(29, some 0)] rfl (by kernel_rfl) (op_runs rfl fun σ w' hx hg => ⟨_, runs_field (ρ := σ.eval) (w := w') Try.stChain (.tmp 29) q 0 rfl hg.1 (by omega), rfl⟩) ?_
    refine LinL.step (s := (.val (.pointer (some ⟨p, 0, none⟩)))) [(30, some 0)] rfl (by kernel_rfl) (op_runs rfl fun σ w' hx hg => ⟨_, runs_fload (ρ := σ.eval) (w := w') (.tmp 30) rfl hg.1 (agg_of (by kernel_rfl) _) (F0.ext hx) rfl, rfl⟩) ?_
    refine LinL.step (s := (.val (.agg #[.int .i64 b.slot, .int .i64 b.miner, .int .i64 b.var, .int .i64 b.parent, u]))) [(3, none)] rfl (by kernel_rfl) (op_runs rfl fun σ w' hx hg => ⟨_, runs_aload (ρ := σ.eval) (w := w') Try.stBlk (.tmp 3) rfl hg.1 (F3.ext hx) rfl, rfl⟩) ?_
    intro wN hxN
    simp only [Fin', List.reverse_cons, List.reverse_nil, List.nil_append, List.cons_append, List.drop_zero, List.take_succ_cons, List.take_zero]
    simp only [Act.put, List.setIfInBounds_toArray, List.set_cons_zero, List.set_cons_succ]
    have hX0 := hX.trans (hxd.trans hxN)
    refine wpOp_call 42 #[.pointer (some ⟨p, 0, none⟩), .agg #[.int .i64 b.slot, .int .i64 b.miner, .int .i64 b.var, .int .i64 b.parent, u]] 33 rfl rfl rfl rfl (fun _ _ => rfl) (by simp only [List.map_toArray, List.map_cons, List.map_nil, Act.eval]; rfl) ?_
    refine (Add_r hR.out (hC.out.tr.ext hX0) hV.out (hu.out.ext TxR.stays hX0) hraw.out).mono ?_; rintro e w5 ⟨v1, H1, rfl, o1, hT1, hU1⟩; have hs1 := hide_ hX0.size; have hC2 := (hC.out.ext hX0).add hU1 hT1; have hU2 := (Upd.ofExt hX0 H).trans hU1; clear hxd hxN F0 F3 f3 hT1 hU1; refine ⟨_, rfl, ?_⟩
    simp only [Act.put, List.setIfInBounds_toArray, List.set_cons_zero, List.set_cons_succ]
    show Ph Try.prog _ _ 6 _ _
    refine Ph.rest 6 5 (by kernel_rfl) ?_
    refine LinL.step (s := (.val (.tuple #[v1, .bool false]))) [(33, none)] rfl (by kernel_rfl) (op_out 33 (.tuple #[v1, .bool false]) rfl (.inl rfl) rfl) ?_
    refine LinL.step (s := (.val (v1))) [(27, some 0)] rfl (by kernel_rfl) (op_runs rfl fun σ w' hx hg => ⟨_, runs_extract (ρ := σ.eval) (w := w') rfl hg.1 rfl, rfl⟩) ?_
    refine LinL.step (s := (.val (.bool false))) [(27, some 1)] rfl (by kernel_rfl) (op_runs rfl fun σ w' hx hg => ⟨_, runs_extract (ρ := σ.eval) (w := w') rfl hg.1 rfl, rfl⟩) ?_
    refine LinL.step (s := (.val (v1))) [(34, some 1)] rfl (by kernel_rfl) (op_copy 34 1 (.val (v1)) rfl (.inr rfl) rfl) ?_
    refine LinL.step (s := (.val (.bool false))) [(35, some 1)] rfl (by kernel_rfl) (op_copy 35 1 (.val (.bool false)) rfl (.inr rfl) rfl) ?_
    intro wN hxN
    simp only [Fin', List.reverse_cons, List.reverse_nil, List.nil_append, List.cons_append, List.drop_zero, List.drop_succ_cons, List.take_succ_cons, List.take_zero]
    simp only [Act.put, List.setIfInBounds_toArray, List.set_cons_zero, List.set_cons_succ]
    go_wp2
    go_ret2
    obtain ⟨rfl, rfl⟩ := hsame.out
    exact Keep.intro ⟨_, H1, rfl, OwnI.nil _ _, hC2.ext hxN, hU2.thenExt hxN⟩
  · obtain ⟨e1, e2, e3⟩ := tk_yes hok
    rw [hR0] at e1 e2
    rw [e1, e2, e3]
    clear e1 e2 e3 hq0 hR0 hok
    go_enter Try.func28, Try.ntmps28
    go_wp2_with ((first
      | ((with_reducible refine at_box ?_); refine w_box _ (bRow b u) rfl rfl rfl rfl ?_; intro g3 w1 hg3 hX f3; replace hg3 := hide_ hg3)
      | fail) <;> (try simp only [Act.put, List.setIfInBounds_toArray, List.set_cons_zero, List.set_cons_succ]))
    refine wp_region_phx (by kernel_rfl) ?_; intro wd hxd; have F0 := f0.out.ext (hX.trans hxd); have F3 := f3.ext hxd
    refine Ph.rest 0 19 (by kernel_rfl) ?_
    refine LinL.step (s := (.val (.pointer (some ⟨g3, 0, none⟩)))) [(3, none)] rfl (by kernel_rfl) (op_runs rfl fun σ w' hx hg => ⟨_, runs_field (ρ := σ.eval) (w := w') Try.stBlk (.tmp 3) g3 0 rfl hg.1 (by omega), rfl⟩) ?_
    refine LinL.step (s := (.val (.int .i64 b.slot))) [(8, some 0)] rfl (by kernel_rfl) (op_runs rfl fun σ w' hx hg => ⟨_, runs_fload (ρ := σ.eval) (w := w') (.tmp 8) rfl hg.1 (agg_of (by kernel_rfl) _) (F3.ext hx) rfl, rfl⟩) ?_
    refine LinL.step (s := (.val (.pointer (some ⟨q, 0, none⟩)))) [(0, none)] rfl (by kernel_rfl) (op_out 0 (.pointer (some ⟨q, 0, none⟩)) rfl (.inl rfl) rfl) ?_
    refine LinL.step (s := (.val (.pointer (some ⟨q, 0, none⟩)))) [(10, some 0)] rfl (by kernel_rfl) (op_runs rfl fun σ w' hx hg => ⟨_, runs_nil (ρ := σ.eval) (w := w') (.tmp 10) rfl hg.1, rfl⟩) ?_
    refine LinL.step (s := (.val (.pointer (some ⟨q, 3, none⟩)))) [(11, some 0)] rfl (by kernel_rfl) (op_runs rfl fun σ w' hx hg => ⟨_, runs_field (ρ := σ.eval) (w := w') Try.stChain (.tmp 11) q 3 rfl hg.1 (by omega), rfl⟩) ?_
    refine LinL.step (s := (.val (.int .i64 slot))) [(12, some 0)] rfl (by kernel_rfl) (op_runs rfl fun σ w' hx hg => ⟨_, runs_fload (ρ := σ.eval) (w := w') (.tmp 12) rfl hg.1 (agg_of (by kernel_rfl) _) (F0.ext hx) rfl, rfl⟩) ?_
    refine LinL.step (s := (.val (.bool false))) [(9, some 4), (13, some 0)] rfl (by kernel_rfl) (op_runs rfl fun σ w' hx hg => ⟨(.bool false), by have h9 : σ.tmps.getD 9 undef = .int .i64 b.slot := hg.1; have h13 : σ.tmps.getD 13 undef = .int .i64 slot := hg.2.1; unfold Runs execOp; simp [Act.eval, h9, h13, go_sem, t1], rfl⟩) ?_
    refine LinL.step (s := (.val (.bool false))) [(14, some 0)] rfl (by kernel_rfl) (op_copy 14 0 (.val (.bool false)) rfl (.inl rfl) rfl) ?_
    refine LinL.step (s := (.val (.pointer (some ⟨q, 0, none⟩)))) [(0, none), (15, some 0)] rfl (by kernel_rfl) (op_yes (reads := [(0, none)]) 7 15 0 false rfl rfl rfl (op_out 0 (.pointer (some ⟨q, 0, none⟩)) rfl (.inl rfl) rfl)) ?_
    refine LinL.step (s := (.val (.pointer (some ⟨q, 0, none⟩)))) [(16, some 0), (15, some 1)] rfl (by kernel_rfl) (op_yes (reads := [(16, some 0)]) 7 15 1 false rfl rfl rfl (op_runs rfl fun σ w' hx hg => ⟨_, runs_nil (ρ := σ.eval) (w := w') (.tmp 16) rfl hg.1, rfl⟩)) ?_
    refine LinL.step (s := (.val (.pointer (some ⟨q, 1, none⟩)))) [(17, some 0), (15, some 2)] rfl (by kernel_rfl) (op_yes (reads := [(17, some 0)]) 7 15 2 false rfl rfl rfl (op_runs rfl fun σ w' hx hg => ⟨_, runs_field (ρ := σ.eval) (w := w') Try.stChain (.tmp 17) q 1 rfl hg.1 (by omega), rfl⟩)) ?_
    refine LinL.step (s := (.val (dv))) [(18, some 0), (15, some 3)] rfl (by kernel_rfl) (op_yes (reads := [(18, some 0)]) 7 15 3 false rfl rfl rfl (op_runs rfl fun σ w' hx hg => ⟨_, runs_fload (ρ := σ.eval) (w := w') (.tmp 18) rfl hg.1 (agg_of (by kernel_rfl) _) (F0.ext hx) rfl, rfl⟩)) ?_
    refine LinL.step (s := (.val (.pointer (some ⟨g3, 0, none⟩)))) [(3, none), (15, some 4)] rfl (by kernel_rfl) (op_yes (reads := [(3, none)]) 7 15 4 false rfl rfl rfl (op_runs rfl fun σ w' hx hg => ⟨_, runs_field (ρ := σ.eval) (w := w') Try.stBlk (.tmp 3) g3 0 rfl hg.1 (by omega), rfl⟩)) ?_
    refine LinL.step (s := (.val (.int .i64 b.slot))) [(20, some 0), (15, some 5)] rfl (by kernel_rfl) (op_yes (reads := [(20, some 0)]) 7 15 5 false rfl rfl rfl (op_runs rfl fun σ w' hx hg => ⟨_, runs_fload (ρ := σ.eval) (w := w') (.tmp 20) rfl hg.1 (agg_of (by kernel_rfl) _) (F3.ext hx) rfl, rfl⟩)) ?_
    refine LinL.step (s := (.val (.pointer (some ⟨g3, 1, none⟩)))) [(3, none), (15, some 6)] rfl (by kernel_rfl) (op_yes (reads := [(3, none)]) 7 15 6 false rfl rfl rfl (op_runs rfl fun σ w' hx hg => ⟨_, runs_field (ρ := σ.eval) (w := w') Try.stBlk (.tmp 3) g3 1 rfl hg.1 (by omega), rfl⟩)) ?_
    refine LinL.step (s := (.val (.int .i64 b.miner))) [(22, some 0), (15, some 7)] rfl (by kernel_rfl) (op_yes (reads := [(22, some 0)]) 7 15 7 false rfl rfl rfl (op_runs rfl fun σ w' hx hg => ⟨_, runs_fload (ρ := σ.eval) (w := w') (.tmp 22) rfl hg.1 (agg_of (by kernel_rfl) _) (F3.ext hx) rfl, rfl⟩)) ?_
    refine LinL.step (s := (.val (.bool true))) [(19, some 4), (21, some 2), (23, some 0), (15, some 8)] rfl (by kernel_rfl) (op_yes (reads := [(19, some 4), (21, some 2), (23, some 0)]) 7 15 8 false rfl rfl rfl (op_calls 41 #[(.tmp 19), (.tmp 21), (.tmp 23)] #[25, 3, 3] (fun σ => #[dv, .int .i64 b.slot, .int .i64 b.miner]) rfl rfl (fun _ _ => rfl) fun σ w' hx hg => ⟨by have h19 : σ.tmps.getD 19 undef = dv := hg.1; have h21 : σ.tmps.getD 21 undef = .int .i64 b.slot := hg.2.1; have h23 : σ.tmps.getD 23 undef = .int .i64 b.miner := hg.2.2.1; simp only [List.map_toArray, List.map_cons, List.map_nil, Act.eval, h19, h21, h23], retH (hW.out w' (hX.trans (hxd.trans hx)))⟩)) ?_
    refine LinL.step (s := (.val (.bool false))) [(24, some 0), (15, some 9)] rfl (by kernel_rfl) (op_yes (reads := [(24, some 0)]) 7 15 9 false rfl rfl rfl (op_runs rfl fun σ w' hx hg => ⟨(.bool false), by have h24 : σ.tmps.getD 24 undef = .bool true := hg.1; unfold Runs execOp; simp [Act.eval, h24, go_sem], rfl⟩)) ?_
    refine LinL.step (s := (.val (.bool false))) [(15, some 10), (25, some 0)] rfl (by kernel_rfl) (op_runs rfl fun σ w' hx hg => ⟨_, runs_pick_f (ρ := σ.eval) (w := w') (.tmp 15) (.const (.bool true)) (.tmp 25) rfl hg.1 hg.2.1, rfl⟩) ?_
    intro wN hxN
    simp only [Fin', List.reverse_cons, List.reverse_nil, List.nil_append, List.cons_append, List.drop_zero, List.take_succ_cons, List.take_zero]
    simp only [Act.put, List.setIfInBounds_toArray, List.set_cons_zero, List.set_cons_succ]
    replace hX := hX.trans (hxd.trans hxN)
    replace f3 := f3.ext (hxd.trans hxN)
    clear F0 F3 hxd hxN
    go_wp2
    refine wp_region_phx (by kernel_rfl) ?_; intro wd hxd; have F0 := f0.out.ext (hX.trans hxd); have F3 := f3.ext hxd
    refine Ph.gate 0 5 (by kernel_rfl) ?_
    refine LinL.step (s := (.val (.pointer (some ⟨q, 0, none⟩)))) [(0, none)] rfl (by kernel_rfl) (op_out 0 (.pointer (some ⟨q, 0, none⟩)) rfl (.inl rfl) rfl) ?_
    refine LinL.step (s := (.val (.pointer (some ⟨q, 0, none⟩)))) [(28, some 0)] rfl (by kernel_rfl) (op_runs rfl fun σ w' hx hg => ⟨_, runs_nil (ρ := σ.eval) (w := w') (.tmp 28) rfl hg.1, rfl⟩) ?_
    refine LinL.step (s := (.val (.pointer (some ⟨q, 0, none⟩)))) [(29, some 0)] rfl (by kernel_rfl) (op_runs rfl fun σ w' hx hg => ⟨_, runs_field (ρ := σ.eval) (w := w') Try.stChain (.tmp 29) q 0 rfl hg.1 (by omega), rfl⟩) ?_
    refine LinL.step (s := (.val (.pointer (some ⟨p, 0, none⟩)))) [(30, some 0)] rfl (by kernel_rfl) (op_runs rfl fun σ w' hx hg => ⟨_, runs_fload (ρ := σ.eval) (w := w') (.tmp 30) rfl hg.1 (agg_of (by kernel_rfl) _) (F0.ext hx) rfl, rfl⟩) ?_
    refine LinL.step (s := (.val (.agg #[.int .i64 b.slot, .int .i64 b.miner, .int .i64 b.var, .int .i64 b.parent, u]))) [(3, none)] rfl (by kernel_rfl) (op_runs rfl fun σ w' hx hg => ⟨_, runs_aload (ρ := σ.eval) (w := w') Try.stBlk (.tmp 3) rfl hg.1 (F3.ext hx) rfl, rfl⟩) ?_
    intro wN hxN
    simp only [Fin', List.reverse_cons, List.reverse_nil, List.nil_append, List.cons_append, List.drop_zero, List.take_succ_cons, List.take_zero]
    simp only [Act.put, List.setIfInBounds_toArray, List.set_cons_zero, List.set_cons_succ]
    have hX0 := hX.trans (hxd.trans hxN)
    refine wpOp_call 42 #[.pointer (some ⟨p, 0, none⟩), .agg #[.int .i64 b.slot, .int .i64 b.miner, .int .i64 b.var, .int .i64 b.parent, u]] 33 rfl rfl rfl rfl (fun _ _ => rfl) (by simp only [List.map_toArray, List.map_cons, List.map_nil, Act.eval]; rfl) ?_
    refine (Add_r hR.out (hC.out.tr.ext hX0) hV.out (hu.out.ext TxR.stays hX0) hraw.out).mono ?_; rintro e w5 ⟨v1, H1, rfl, o1, hT1, hU1⟩; have hs1 := hide_ hX0.size; have hC2 := (hC.out.ext hX0).add hU1 hT1; have hU2 := (Upd.ofExt hX0 H).trans hU1; clear hxd hxN F0 F3 f3 hT1 hU1; refine ⟨_, rfl, ?_⟩
    simp only [Act.put, List.setIfInBounds_toArray, List.set_cons_zero, List.set_cons_succ]
    show Ph Try.prog _ _ 6 _ _
    refine Ph.rest 6 5 (by kernel_rfl) ?_
    refine LinL.step (s := (.val (.tuple #[v1, .bool true]))) [(33, none)] rfl (by kernel_rfl) (op_out 33 (.tuple #[v1, .bool true]) rfl (.inl rfl) rfl) ?_
    refine LinL.step (s := (.val (v1))) [(27, some 0)] rfl (by kernel_rfl) (op_runs rfl fun σ w' hx hg => ⟨_, runs_extract (ρ := σ.eval) (w := w') rfl hg.1 rfl, rfl⟩) ?_
    refine LinL.step (s := (.val (.bool true))) [(27, some 1)] rfl (by kernel_rfl) (op_runs rfl fun σ w' hx hg => ⟨_, runs_extract (ρ := σ.eval) (w := w') rfl hg.1 rfl, rfl⟩) ?_
    refine LinL.step (s := (.val (v1))) [(34, some 1)] rfl (by kernel_rfl) (op_copy 34 1 (.val (v1)) rfl (.inr rfl) rfl) ?_
    refine LinL.step (s := (.val (.bool true))) [(35, some 1)] rfl (by kernel_rfl) (op_copy 35 1 (.val (.bool true)) rfl (.inr rfl) rfl) ?_
    intro wN hxN
    simp only [Fin', List.reverse_cons, List.reverse_nil, List.nil_append, List.cons_append, List.drop_zero, List.drop_succ_cons, List.take_succ_cons, List.take_zero]
    simp only [Act.put, List.setIfInBounds_toArray, List.set_cons_zero, List.set_cons_succ]
    go_wp2
    go_ret2
    exact Keep.intro ⟨_, H1, rfl, (o1.ext hxN).mono hs1.out, hC2.ext hxN, hU2.thenExt hxN⟩

end Go.Proofs.Ytdoeoncmhaihbaa
