/- Blocks among a law's parameters; a tree to which they are added, one after the other. -/
import Derived.Test.YtdacclcaopmalaaTLa
import Derived.Test.YtdacclcaopmalaaFL
namespace Go.Proofs.Ytdacclcaopmalaa
set_option maxRecDepth 100000
open Go.RowKit Go.ChangeShapes Go.WideShapes Go.ChangeAt

theorem runs_leni {o : Oper} {ρ : Operand → Value} {w : World} {v : Value} {l : List Int} (x : Operand) (ho : o.op = .call { callee := .builtin .len, args := #[x], argTypes := #[32] }) (hv : ρ x = v) (h : Ints w v l) : Runs Try.prog o ρ w (.int .i64 l.length) := by
  have := runs_len Try.elI x ho hv h
  rw [i64s_length] at this; exact this
/-- A block that a law is handed: how many transactions it can have. -/
def BlkL (w : World) (row : List Value) (d : BlkD) : Prop := BlkR w row d ∧ d.txs.length * 16 ≤ 140737488355328
theorem BlkL.stays : Stays BlkL := fun _ _ _ _ ⟨h1, h2⟩ he => ⟨BlkR.stays _ _ _ _ h1 he, h2⟩
section
variable {H : Type} {enc : TypeId × Value → H} {W : World}
theorem rd_BlkL {fuel : Nat} {cs : List Value} {y : DataW H × List MemPlace} (hlen : cs.length = 5) (hy : DataW.trod enc Try.prog W 0 (fun _ => true) true fuel 54 cs = some y) (hw : Fits Try.prog 54 y.1) : ∃ d, BlkL W cs d := by
  obtain ⟨d, hd⟩ := rd_Blk hlen hy hw
  refine ⟨d, hd, ?_⟩
  obtain ⟨xs, m, _, rfl, _, hxl, hf⟩ := DataW.trod_struct Try.underlying54 hy
  obtain ⟨⟨u4, rfl, hr⟩, _⟩ := hd
  match xs, hxl with
  | [y0, y1, y2, y3, y4], _ =>
    have k4 : DataW.trod enc Try.prog W 0 (fun _ => true) true m 23 [u4] = some y4 := hf 4 _ rfl
    simp only [List.map_cons, List.map_nil] at hw
    obtain ⟨l4, g4, b4⟩ := rd_recs (d := y4.1) (pl := y4.2) (n := 2) (R := TxR) Try.underlying23 (by kernel_rfl) (fun fuel cs y hlen hy hw => rd_Tx hlen hy hw) k4 (hw.part Try.underlying54 (j := 4) rfl rfl)
    rw [show Try.prog.bytesOf 30 = 16 from by kernel_rfl] at b4
    have e : l4.length = d.txs.length := by
      obtain ⟨r1, ⟨A1, c1, e1, _⟩, q1, _⟩ := g4
      obtain ⟨r2, ⟨A2, c2, e2, _⟩, q2, _⟩ := hr
      rw [e1] at e2
      injection e2 with _ e2 _
      omega
    have : reachBytes ≤ 140737488355328 := by decide
    omega
theorem arg_Blks {base : Nat} {v : Value} {d : DataW H} {ps : List MemPlace} {ts : List TypeId} {ds : List (DataW H)} (hsz : (DataW.weightsEach Try.prog ts ds).all (· ≤ reachBytes) = true) {j : Nat} (ht : ts[j]? = some 48) (hd : ds[j]? = some d)
    (hval : Value.okWide Try.prog W .any base 48 v) (h : DataW.Trod enc Try.prog W 0 (fun _ => true) true 48 v d ps) : ∃ l : List BlkD, Recs 5 BlkL W v l := by
  obtain ⟨a0, len0, cap0, rfl⟩ := okWide_slice Try.underlying48 hval
  obtain ⟨fuel, hf⟩ := h
  obtain ⟨l, hl, _⟩ := rd_recs (n := 5) (R := BlkL) Try.underlying48 (by kernel_rfl) (fun fuel cs y hlen hy hw => rd_BlkL hlen hy hw) hf (fits_arg hsz ht hd)
  exact ⟨l, hl⟩
end
/-- &l[i] of what a law is handed. -/
theorem w_lidx {P : Program} {ops : Array Oper} {rest : List Oper} {o : Oper} {a : Act} {Q : Exit → Act → World → Prop} {w W0 : World} {t e : TypeId} {v : Value} {l : List BlkD} (E : ElS P t e 5) (x y : Operand) (i : Nat) (hgd : o.guard = none) (ho : o.op = .indexAddr t x y) (hv : a.eval x = v) (hy : a.eval y = .int .i64 i)
    (h : Recs 5 BlkL W0 v l) (he : Ext W0 w) {d : BlkD} (hd : l[i]? = some d) (k : ∀ p u, RowAt w p (bRow d u) → Recs 2 TxR w u d.txs → wpList P ops Q rest (a.put o.dst (.pointer (some p))) w) : wpList P ops Q (o :: rest) a w := by
  have hi := (List.getElem?_eq_some_iff.1 hd).1
  have e : l[i] = d := (List.getElem?_eq_some_iff.1 hd).2
  refine w_ridx0 E x y i BlkL.stays hgd ho hv hy h he hi ?_
  rintro pa row hrow _ ⟨⟨⟨u, rfl, hu⟩, _⟩, _⟩
  rw [e] at hrow hu
  exact k pa u (hrow.ext he) (hu.ext TxR.stays he)
theorem blks_at {W : World} {v : Value} {l : List BlkD} (h : Recs 5 BlkL W v l) {i : Nat} {d : BlkD} (hd : l[i]? = some d) : d.Raw ∧ d.txs.length * 16 ≤ 140737488355328 := by
  obtain ⟨rows, ⟨A, c, _, _⟩, hl, hr⟩ := h
  have hi := (List.getElem?_eq_some_iff.1 hd).1
  have := hr i _ d (List.getElem?_eq_getElem (by omega)) hd
  exact ⟨this.1.2, this.2⟩

/-! ### Blocks added one after the other, as plain mathematics -/
def stF (t : TrS) (l : List BlkD) : TrS := l.foldl (fun t b => (TrS.add t b).1) t
def st (l : List BlkD) (k : Nat) : TrS := stF ⟨[], []⟩ (l.take k)
theorem st_zero (l : List BlkD) : st l 0 = ⟨[], []⟩ := by simp [st, stF]
theorem st_succ {l : List BlkD} {k : Nat} {d : BlkD} (h : l[k]? = some d) : st l (k + 1) = (TrS.add (st l k) d).1 := by
  unfold st stF
  rw [List.take_add_one, h]; simp
theorem right_or {b : BlkD} : b.Right ∨ b.name = 0 := by
  by_cases h : b.Right
  · exact .inl h
  · exact .inr (if_neg h)
theorem stF_good : ∀ (l : List BlkD) {t : TrS}, TrS.Good t → TrS.Good (stF t l)
  | [], _, h => h
  | b :: l, _, h => stF_good l (h.add (b := b) right_or).1
theorem st_good (l : List BlkD) (k : Nat) : TrS.Good (st l k) := stF_good _ TrS.Good.nil
end Go.Proofs.Ytdacclcaopmalaa
