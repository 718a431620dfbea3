/- The chapter's example. · Blocks among a law's parameters; a tree to which they are added, one after the other. · What a tree of blocks says, as the statements ask it: plain mathematics. · What a second block of one name does, and what stays, as plain mathematics; lists that a call made, beside a tree. -/
import Derived.Test.YtdoeoncmhaihbaaTRC
import Derived.Test.YtdoeoncmhaihbaaSame
import Derived.Test.YtdoeoncmhaihbaaFL
namespace Go.Proofs.Ytdoeoncmhaihbaa
set_option maxRecDepth 100000
open Go.RowKit

def bOne : BlkD := ⟨2, 0, 0, 65536, []⟩
def bTwo : BlkD := ⟨1, 0, 0, 0, []⟩
theorem addA : TrS.add ⟨[], []⟩ bOne = (⟨[], [bOne]⟩, [], true) := by kernel_rfl
theorem addB : TrS.add ⟨[], [bOne]⟩ bTwo = (⟨[bTwo, bOne], []⟩, [65536, 131072], true) := by kernel_rfl
theorem tipAB : TrS.tip [bTwo, bOne] = 131072 := by kernel_rfl
theorem highAB : TrS.height [bTwo, bOne] 131072 = 2 := by kernel_rfl
theorem rawA : bOne.Raw := ⟨by simp [bOne], by simp [bOne], by simp [bOne], by simp [bOne], by simp [bOne]⟩
theorem rawB : bTwo.Raw := ⟨by simp [bTwo], by simp [bTwo], by simp [bTwo], by simp [bTwo], by simp [bTwo]⟩
theorem nilT (w : World) : Recs 2 TxR w (.slice none 0 0) [] := (OwnT.nil 0 w).recs
theorem Ints.none {w : World} (w' : World) {v : Value} (h : Ints w v []) : Ints w' v [] := Sl.empty w' h

end Go.Proofs.Ytdoeoncmhaihbaa
namespace Go.Proofs.Ytdoeoncmhaihbaa
set_option maxRecDepth 100000
open Go.RowKit Go.ChangeShapes Go.WideShapes Go.ChangeAt

theorem runs_leni {o : Oper} {ρ : Operand → Value} {w : World} {v : Value} {l : List Int} (x : Operand) (ho : o.op = .call { callee := .builtin .len, args := #[x], argTypes := #[25] }) (hv : ρ x = v) (h : Ints w v l) : Runs Try.prog o ρ w (.int .i64 l.length) := by
  have := runs_len Try.elI x ho hv h
  rw [i64s_length] at this; exact this
/-- A block that a law is handed: how many transactions it can have. -/
def BlkL (w : World) (row : List Value) (d : BlkD) : Prop := BlkR w row d ∧ d.txs.length * 16 ≤ 140737488355328
theorem BlkL.stays : Stays BlkL := fun _ _ _ _ ⟨h1, h2⟩ he => ⟨BlkR.stays _ _ _ _ h1 he, h2⟩
section
variable {H : Type} {enc : TypeId × Value → H} {W : World}
theorem rd_BlkL {fuel : Nat} {cs : List Value} {y : DataW H × List MemPlace} (hlen : cs.length = 5) (hy : DataW.trod enc Try.prog W 0 (fun _ => true) true fuel 59 cs = some y) (hw : Fits Try.prog 59 y.1) : ∃ d, BlkL W cs d := by
  obtain ⟨d, hd⟩ := rd_Blk hlen hy hw
  refine ⟨d, hd, ?_⟩
  obtain ⟨xs, m, _, rfl, _, hxl, hf⟩ := DataW.trod_struct Try.underlying59 hy
  obtain ⟨⟨u4, rfl, hr⟩, _⟩ := hd
  match xs, hxl with
  | [y0, y1, y2, y3, y4], _ =>
    have k4 : DataW.trod enc Try.prog W 0 (fun _ => true) true m 57 [u4] = some y4 := hf 4 _ rfl
    simp only [List.map_cons, List.map_nil] at hw
    obtain ⟨l4, g4, b4⟩ := rd_recs (d := y4.1) (pl := y4.2) (n := 2) (R := TxR) Try.underlying57 (by kernel_rfl) (fun fuel cs y hlen hy hw => rd_Tx hlen hy hw) k4 (hw.part Try.underlying59 (j := 4) rfl rfl)
    rw [show Try.prog.bytesOf 56 = 16 from by kernel_rfl] at b4
    have e : l4.length = d.txs.length := by
      obtain ⟨r1, ⟨A1, c1, e1, _⟩, q1, _⟩ := g4
      obtain ⟨r2, ⟨A2, c2, e2, _⟩, q2, _⟩ := hr
      rw [e1] at e2
      injection e2 with _ e2 _
      omega
    have : reachBytes ≤ 140737488355328 := by decide
    omega
theorem arg_Blks {base : Nat} {v : Value} {d : DataW H} {ps : List MemPlace} {ts : List TypeId} {ds : List (DataW H)} (hsz : (DataW.weightsEach Try.prog ts ds).all (· ≤ reachBytes) = true) {j : Nat} (ht : ts[j]? = some 33) (hd : ds[j]? = some d)
    (hval : Value.okWide Try.prog W .any base 33 v) (h : DataW.Trod enc Try.prog W 0 (fun _ => true) true 33 v d ps) : ∃ l : List BlkD, Recs 5 BlkL W v l := by
  obtain ⟨a0, len0, cap0, rfl⟩ := okWide_slice Try.underlying33 hval
  obtain ⟨fuel, hf⟩ := h
  obtain ⟨l, hl, _⟩ := rd_recs (n := 5) (R := BlkL) Try.underlying33 (by kernel_rfl) (fun fuel cs y hlen hy hw => rd_BlkL hlen hy hw) hf (fits_arg hsz ht hd)
  exact ⟨l, hl⟩
end
/-- &l[i] of what a law is handed. -/
theorem w_lidx {P : Program} {ops : Array Oper} {rest : List Oper} {o : Oper} {a : Act} {Q : Exit → Act → World → Prop} {w W0 : World} {t e : TypeId} {v : Value} {l : List BlkD} (E : ElS P t e 5) (x y : Operand) (i : Nat) (hgd : o.guard = none) (ho : o.op = .indexAddr t x y) (hv : a.eval x = v) (hy : a.eval y = .int .i64 i)
    (h : Recs 5 BlkL W0 v l) (he : Ext W0 w) {d : BlkD} (hd : l[i]? = some d) (k : ∀ p u, RowAt w p (bRow d u) → Recs 2 TxR w u d.txs → wpList P ops Q rest (a.put o.dst (.pointer (some p))) w) : wpList P ops Q (o :: rest) a w := by
  have hi := (List.getElem?_eq_some_iff.1 hd).1
  have e : l[i] = d := (List.getElem?_eq_some_iff.1 hd).2
  refine w_ridx0 E x y i BlkL.stays hgd ho hv hy h he hi ?_
  rintro pa row hrow _ ⟨⟨⟨u, rfl, hu⟩, _⟩, _⟩
  rw [e] at hrow hu
  exact k pa u (hrow.ext he) (hu.ext TxR.stays he)
theorem blks_at {W : World} {v : Value} {l : List BlkD} (h : Recs 5 BlkL W v l) {i : Nat} {d : BlkD} (hd : l[i]? = some d) : d.Raw ∧ d.txs.length * 16 ≤ 140737488355328 := by
  obtain ⟨rows, ⟨A, c, _, _⟩, hl, hr⟩ := h
  have hi := (List.getElem?_eq_some_iff.1 hd).1
  have := hr i _ d (List.getElem?_eq_getElem (by omega)) hd
  exact ⟨this.1.2, this.2⟩

/-! ### Blocks added one after the other, as plain mathematics -/
def stF (t : TrS) (l : List BlkD) : TrS := l.foldl (fun t b => (TrS.add t b).1) t
def st (l : List BlkD) (k : Nat) : TrS := stF ⟨[], []⟩ (l.take k)
theorem st_zero (l : List BlkD) : st l 0 = ⟨[], []⟩ := by simp [st, stF]
theorem st_succ {l : List BlkD} {k : Nat} {d : BlkD} (h : l[k]? = some d) : st l (k + 1) = (TrS.add (st l k) d).1 := by
  unfold st stF
  rw [List.take_add_one, h]; simp
theorem right_or {b : BlkD} : b.Right ∨ b.name = 0 := by
  by_cases h : b.Right
  · exact .inl h
  · exact .inr (if_neg h)
theorem stF_good : ∀ (l : List BlkD) {t : TrS}, TrS.Good t → TrS.Good (stF t l)
  | [], _, h => h
  | b :: l, _, h => stF_good l (h.add (b := b) right_or).1
theorem st_good (l : List BlkD) (k : Nat) : TrS.Good (st l k) := stF_good _ TrS.Good.nil
end Go.Proofs.Ytdoeoncmhaihbaa
namespace Go.Proofs.Ytdoeoncmhaihbaa
set_option maxRecDepth 100000
open Go.RowKit

section
variable {K : List BlkD} {b : BlkD}
theorem getOr_mem (h : TrS.Uq K) (hb : b ∈ K) : getOr K b.name = b := by rw [getOr, h.get hb]; rfl
theorem has_of (hb : b ∈ K) : TrS.has K b.name = true := TrS.has_iff.2 ⟨b, hb, rfl⟩
theorem parent_has (h : TrS.Stood K) (hb : b ∈ K) (h0 : b.parent ≠ 0) : TrS.has K b.parent = true := by
  induction h with
  | nil => cases hb
  | @snoc K c _ hr ih =>
    have mono : ∀ {n}, TrS.has K n = true → TrS.has (K ++ [c]) n = true := fun h => by
      obtain ⟨x, hx, hn⟩ := TrS.has_iff.1 h
      exact TrS.has_iff.2 ⟨x, List.mem_append_left _ hx, hn⟩
    rcases List.mem_append.1 hb with hb | hb
    · exact mono (ih hb)
    · simp at hb; subst hb
      rcases TrS.ready_iff.1 hr with h | h
      · exact absurd h h0
      · exact mono (TrS.has_iff.2 h)
theorem high_len (h : TrS.Uq K) (hb : b ∈ K) : TrS.height K b.name = ((TrS.path K b.name).length : Int) := by
  have h0 := (h.right b hb).name0
  unfold TrS.height
  rw [if_neg h0, h.get hb]; rfl
theorem back_one (h : TrS.Uq K) (hs : TrS.Stood K) (hb : b ∈ K) : backN (TrS.path K b.name) 1 = b.parent := by
  rw [h.path hb]
  unfold backN
  rw [List.length_append, List.length_singleton, show (TrS.path K b.parent).length + 1 - (1 : Int).toNat = (TrS.path K b.parent).length from by simp, List.take_left']
  · by_cases h0 : b.parent = 0
    · rw [h0, h.path_zero]; rfl
    · obtain ⟨c, hc, hn⟩ := TrS.has_iff.1 (parent_has hs hb h0)
      obtain ⟨r, hr⟩ := h.path_end hc hn
      rw [hr]; simp
  · rfl
theorem back_all (L : List Int) : backN L (L.length : Int) = 0 := by
  unfold backN; simp
theorem back_first {x : Int} {L : List Int} (h : L[0]? = some x) : backN L ((L.length : Int) - 1) = x := by
  cases L with
  | nil => simp at h
  | cons y L =>
    simp at h; subst h
    unfold backN
    rw [show (y :: L).length - (((y :: L).length : Int) - 1).toNat = 1 from by simp]
    rfl
end

theorem retH {f : FuncId} {args : Array Value} {w : World} {u : Value} (h : Calls Try.prog f args w fun e w' => e = .returned u ∧ Ext w w') : Calls Try.prog f args w fun e w' => ∃ v', e = .returned v' ∧ Ext w w' ∧ Sp.p (.val u) v' w' := by
  refine h.mono ?_
  rintro e w' ⟨rfl, hx⟩
  exact ⟨_, rfl, hx, rfl⟩
theorem prefix_end {l p1 p2 : List Int} {c : Int} (hn : l.Nodup) (h1 : p1 ++ [c] <+: l) (h2 : p2 ++ [c] <+: l) : p1.length = p2.length := by
  obtain ⟨s1, rfl⟩ := h1
  obtain ⟨s2, h2⟩ := h2
  have e1 : (p1 ++ [c] ++ s1)[p1.length]? = some c := by simp
  have e2 : (p1 ++ [c] ++ s1)[p2.length]? = some c := by rw [← h2]; simp
  have l1 := (List.getElem?_eq_some_iff.1 e1).1
  exact (List.getElem?_inj l1 hn).1 (e1.trans e2.symm)
section
variable {K : List BlkD} {a b : Int}
theorem common_ne (h0 : TrS.common K a b ≠ 0) : TrS.has K a = true ∧ TrS.has K b = true := by
  have key : ∀ n, TrS.has K n = false → TrS.path K n = [] := fun n hn => TrS.path_none (by
    have := get_has (K := K) (n := n)
    rw [hn] at this
    cases hg : TrS.get K n with
    | none => rfl
    | some d => rw [hg] at this; cases this)
  constructor
  · cases h : TrS.has K a with
    | true => rfl
    | false => exact absurd (by rw [TrS.common, key a h]; simp [TrS.lcp]) h0
  · cases h : TrS.has K b with
    | true => rfl
    | false => exact absurd (by rw [TrS.common, key b h]; cases TrS.path K a <;> simp [TrS.lcp]) h0
theorem common_self (h : TrS.Uq K) (ha : TrS.has K a = true) : TrS.common K a a = a := by
  obtain ⟨c, hc, rfl⟩ := TrS.has_iff.1 ha
  rw [TrS.common, TrS.lcp_self]
  obtain ⟨r, hr⟩ := h.path_end hc rfl
  rw [hr]; simp
theorem common_comm : TrS.common K b a = TrS.common K a b := by rw [TrS.common, TrS.common, TrS.lcp_comm]
theorem common_high (h : TrS.Uq K) (hs : TrS.Stood K) : TrS.height K (TrS.common K a b) = ((TrS.lcp (TrS.path K a) (TrS.path K b)).length : Int) ∧ (TrS.common K a b = 0 ∨ ∃ c ∈ K, c.name = TrS.common K a b) := by
  obtain ⟨h1, h2⟩ := TrS.lcp_pre (TrS.path K a) (TrS.path K b)
  rcases List.eq_nil_or_concat (TrS.lcp (TrS.path K a) (TrS.path K b)) with he | ⟨r, c, he⟩
  · have e : TrS.common K a b = 0 := by rw [TrS.common, he]; rfl
    rw [e, he, TrS.height_zero]
    exact ⟨rfl, .inl rfl⟩
  · rw [List.concat_eq_append] at he
    have e : TrS.common K a b = c := by rw [TrS.common, he]; simp
    have hca : c ∈ TrS.path K a := h1.subset (by rw [he]; simp)
    obtain ⟨x, hx, rfl⟩ := TrS.path_get hca
    obtain ⟨d, hd, rfl, hpre⟩ := h.path_pre hs x hx c hca
    obtain ⟨r2, hr2⟩ := h.path_end hd rfl
    have hl := prefix_end (h.path_nodup hs x.name) (he ▸ h1) (hr2 ▸ hpre)
    rw [e, high_len h hd, he, hr2]
    exact ⟨by simp; omega, .inr ⟨d, hd, rfl⟩⟩
end
end Go.Proofs.Ytdoeoncmhaihbaa
namespace Go.Proofs.Ytdoeoncmhaihbaa
set_option maxRecDepth 100000
open Go.RowKit

theorem OwnI.safe {G : Nat → Prop} {base : Nat} {w : World} {v : Value} {l : List Int} (h : OwnI base w v l) (hG : ∀ k, G k → k < base) : Safe G w v (i64s l) :=
  ⟨h.ints, fun k hk hg => by have := (own_block_lt (g := k) h hk).1; have := hG k hg; omega, fun k hk => (own_block_lt (g := k) h hk).2⟩
theorem TrW.trim {G : Nat → Prop} {w : World} {p : Nat} {K V : List BlkD} (h : TrW G w p K V) : TrW (fun k => G k ∧ k < w.heap.size) w p K V := by
  obtain ⟨X, g, v, h1, h2, h3, h4, h5⟩ := h
  have l := h1.lts
  exact ⟨X, g, v, h1, fun k hk => ⟨⟨(h2 k hk).1, (h2 k hk).2⟩, (h2 k hk).2⟩, ⟨h3, l.1⟩, ⟨h4, l.2.1⟩, fun k hk => ⟨h5 k hk, l.2.2 k hk⟩⟩
/-- &l[i] of what a law is handed: its transactions as they were. -/
theorem w_lidx0 {P : Program} {ops : Array Oper} {rest : List Oper} {o : Oper} {a : Act} {Q : Exit → Act → World → Prop} {w W0 : World} {t e : TypeId} {v : Value} {l : List BlkD} (E : ElS P t e 5) (x y : Operand) (i : Nat) (hgd : o.guard = none) (ho : o.op = .indexAddr t x y) (hv : a.eval x = v) (hy : a.eval y = .int .i64 i)
    (h : Recs 5 BlkL W0 v l) (he : Ext W0 w) {d : BlkD} (hd : l[i]? = some d) (k : ∀ p u, RowAt w p (bRow d u) → Recs 2 TxR W0 u d.txs → wpList P ops Q rest (a.put o.dst (.pointer (some p))) w) : wpList P ops Q (o :: rest) a w := by
  have hi := (List.getElem?_eq_some_iff.1 hd).1
  have e : l[i] = d := (List.getElem?_eq_some_iff.1 hd).2
  refine w_ridx0 E x y i BlkL.stays hgd ho hv hy h he hi ?_
  rintro pa row hrow _ ⟨⟨⟨u, rfl, hu⟩, _⟩, _⟩
  rw [e] at hrow hu
  exact k pa u (hrow.ext he) hu
section
variable {t : TrS} {d : BlkD}
theorem add_known (h : TrS.Good t) : ∃ n, (TrS.add t d).1.known = t.known ++ n ∧ (TrS.add t d).2.1 = n.map BlkD.name := (h.add (b := d) right_or).2.1
theorem add_good (h : TrS.Good t) : TrS.Good (TrS.add t d).1 := (h.add (b := d) right_or).1
theorem add_has (h : TrS.Good t) (hok : (TrS.add t d).2.2 = true) : TrS.has (TrS.add t d).1.known d.name = true ∨ TrS.has (TrS.add t d).1.wait d.name = true := by
  obtain ⟨K, V⟩ := t
  by_cases hc : d.name = 0 ∨ TrS.has K d.name = true ∨ TrS.has V d.name = true
  · rw [add_c1 hc] at hok; cases hok
  cases hr : TrS.ready K d
  · rw [add_c2 hc hr]
    refine .inr (TrS.has_iff.2 ⟨d, ?_, rfl⟩)
    unfold pushQ
    split
    · rename_i hl
      cases V with
      | nil => simp at hl
      | cons x V => simp
    · simp
  · by_cases hk : K.length < 400
    · have hg := (h.add (b := d) right_or).2.1
      obtain ⟨n, h1, h2⟩ := hg
      have h3 := h2
      rw [add_c4 hc hr hk] at h3
      cases n with
      | nil => simp at h3
      | cons x n =>
        rw [h1]
        refine .inl (TrS.has_iff.2 ⟨x, by simp, ?_⟩)
        simp at h3
        exact h3.1.symm
    · rw [add_c3 hc hr hk] at hok; cases hok
theorem add_twice (h : TrS.Good t) : TrS.add (TrS.add t d).1 d = ((TrS.add t d).1, [], false) := by
  cases hok : (TrS.add t d).2.2
  · obtain ⟨h1, h2⟩ := (h.add (b := d) right_or).2.2 hok
    rw [h1]
    have e : TrS.add t d = ((TrS.add t d).1, (TrS.add t d).2.1, (TrS.add t d).2.2) := rfl
    rw [e, h1, h2, hok]
  · have := add_has h hok
    exact if_pos (.inr this)
theorem add_names_len (h : TrS.Good t) : (TrS.names (TrS.add t d).1.known).length = (TrS.names t.known).length + (TrS.add t d).2.1.length := by
  obtain ⟨n, h1, h2⟩ := add_known (d := d) h
  rw [(add_good h).names_len, h.names_len, h1, h2]; simp
theorem tip_or (h : TrS.Good t) : TrS.tip t.known = 0 ∨ ∃ c ∈ t.known, c.name = TrS.tip t.known := h.uq.tip.mem.imp And.left id
theorem add_path (h : TrS.Good t) : TrS.path (TrS.add t d).1.known (TrS.tip t.known) = TrS.path t.known (TrS.tip t.known) := by
  obtain ⟨n, h1, _⟩ := add_known (d := d) h
  rcases tip_or h with h0 | ⟨c, hc, hn⟩
  · rw [h0, (add_good h).uq.path_zero, h.uq.path_zero]
  · rw [← hn]
    exact h.uq.path_mono (add_good h).uq h.stood (fun x hx => by rw [h1]; exact List.mem_append_left _ hx) c hc
theorem add_high (h : TrS.Good t) : TrS.height t.known (TrS.tip t.known) ≤ TrS.height (TrS.add t d).1.known (TrS.tip (TrS.add t d).1.known) := by
  obtain ⟨n, h1, _⟩ := add_known (d := d) h
  have hs : ∀ x ∈ t.known, x ∈ (TrS.add t d).1.known := fun x hx => by rw [h1]; exact List.mem_append_left _ hx
  rcases tip_or h with h0 | ⟨c, hc, hn⟩
  · rw [h0, TrS.height_zero]
    rcases tip_or (t := (TrS.add t d).1) (add_good h) with g0 | ⟨c, hc, hn⟩
    · rw [g0, TrS.height_zero]; exact Int.le_refl _
    · rw [← hn]; exact Int.le_of_lt ((add_good h).uq.height_pos hc)
  · rw [← hn, ← height_mono h.uq (add_good h).uq h.stood hs hc]
    rcases (add_good h).uq.tip.top c (hs c hc) with e | ⟨e, _⟩ <;> omega
theorem add_keeps (h : TrS.Good t) {n : Int} (hn : n ∈ TrS.names t.known) : TrS.has (TrS.add t d).1.known n = true := by
  obtain ⟨m, h1, _⟩ := add_known (d := d) h
  obtain ⟨c, hc, hcn⟩ := TrS.mem_names.1 hn
  exact TrS.has_iff.2 ⟨c, by rw [h1]; exact List.mem_append_left _ hc, hcn⟩
theorem tip_i64 (h : TrS.Good t) : I64 (TrS.tip t.known) := by
  rcases tip_or h with h0 | ⟨c, hc, hn⟩
  · rw [h0]; exact ⟨by omega, by omega⟩
  · rw [← hn]; exact (h.uq.right c hc).i64
end
end Go.Proofs.Ytdoeoncmhaihbaa
