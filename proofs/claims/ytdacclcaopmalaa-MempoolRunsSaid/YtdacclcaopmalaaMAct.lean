/- What is done with a pool, among a law's parameters. -/
import Derived.Test.YtdacclcaopmalaaTXB
namespace Go.Proofs.Ytdacclcaopmalaa
set_option maxRecDepth 100000
open Go.RowKit Go.ChangeShapes Go.WideShapes Go.ChangeAt

section
variable {H : Type} {enc : TypeId × Value → H} {W : World}
theorem rd_ints {fuel : Nat} {v : Value} {d : DataW H} {pl : List MemPlace} (hf : DataW.trod enc Try.prog W 0 (fun _ => true) true fuel 32 [v] = some (d, pl)) (hw : Fits Try.prog 32 d) : ∃ l : List Int, Ints W v l ∧ (∀ x ∈ l, -9223372036854775808 ≤ x ∧ x ≤ 9223372036854775807) ∧ l.length * 8 ≤ 140737488351232 := by
  rcases open_ints Try.underlying32 Try.underlying3 (by kernel_rfl) hf with ⟨h1, _⟩ | ⟨a, len, cap, zs, h1, _, hlc, hcm, hzl, hx, hc, hwf⟩
  · injection h1 with h1
    subst h1
    exact ⟨[], Ints.nil W, by simp, by simp⟩
  · injection h1 with h1
    subst h1
    simp only [if_true] at hzl
    have hwn : ∀ n ∈ zs, -9223372036854775808 ≤ n ∧ n ≤ 9223372036854775807 := fun n hn => by
      have := hwf n hn
      simp [Lit.wf, IntKind.min, IntKind.max, IntKind.signed, IntKind.bits] at this
      omega
    have hd2 : d = .slice (lits .i64 (zs.take len)) (lits .i64 (zs.drop len)) := congrArg Prod.fst hx
    subst hd2
    have hz2 := hw.slice Try.underlying32
    have hb5 : Try.prog.bytesOf 3 = 8 := by kernel_rfl
    have hreach : reachBytes = 140737488351232 := rfl
    rw [hb5, hreach] at hz2
    simp only [lits, List.length_map, List.length_take, List.length_drop] at hz2
    refine ⟨zs.take len, ?_, fun x hx' => hwn x (List.mem_of_mem_take hx'), by simp; omega⟩
    refine ⟨some a, cap, by simp [i64s]; omega, by simp [i64s]; omega, hcm, fun k u hk => ⟨a, rfl, ?_⟩⟩
    rw [i64s, List.getElem?_map, List.getElem?_take] at hk
    split at hk
    · rw [hc k (by omega)]
      have hkz : k < zs.length := by omega
      rw [List.getElem?_eq_getElem hkz] at hk
      simp at hk
      subst hk
      simp [List.getD, List.getElem?_eq_getElem hkz]
    · simp at hk
end
structure ActP where
  k : Int
  t : TxD
  ids : List Int
instance : Inhabited ActP := ⟨⟨0, ⟨0, 0⟩, []⟩⟩
def ActPR (w : World) (row : List Value) (d : ActP) : Prop := (∃ u, row = [.int .i64 d.k, .int .i64 d.t.id, .int .i64 d.t.fee, u] ∧ Ints w u d.ids) ∧ d.t.Raw ∧ d.ids.length * 8 ≤ 140737488351232
theorem ActPR.stays : Stays ActPR := fun _ _ _ _ ⟨⟨u, h1, h2⟩, h4⟩ he => ⟨⟨u, h1, h2.ext he⟩, h4⟩
theorem Try.elAP : ElS Try.prog 31 34 4 := ElS.of Try.underlying31 (by kernel_rfl)
theorem Try.stAP : StN Try.prog 34 4 [.int .i64 0, .int .i64 0, .int .i64 0, .slice none 0 0] := StN.of (by kernel_rfl) (by kernel_rfl) rfl
theorem Try.stTxN : StN Try.prog 30 2 [.int .i64 0, .int .i64 0] := StN.of (by kernel_rfl) (by kernel_rfl) rfl
section
variable {H : Type} {enc : TypeId × Value → H} {W : World}
theorem rd_ActP {fuel : Nat} {cs : List Value} {y : DataW H × List MemPlace} (hlen : cs.length = 4) (hy : DataW.trod enc Try.prog W 0 (fun _ => true) true fuel 34 cs = some y) (hw : Fits Try.prog 34 y.1) : ∃ d, ActPR W cs d := by
  obtain ⟨xs, m, _, rfl, _, hxl, hf⟩ := DataW.trod_struct Try.underlying34 hy
  match xs, hxl, cs, hlen with
  | [y0, y1, y2], _, [c0, c1, c2, c3], _ =>
    have k0 : DataW.trod enc Try.prog W 0 (fun _ => true) true m 3 [c0] = some y0 := hf 0 _ rfl
    have k1 : DataW.trod enc Try.prog W 0 (fun _ => true) true m 30 [c1, c2] = some y1 := hf 1 _ rfl
    have k2 : DataW.trod enc Try.prog W 0 (fun _ => true) true m 32 [c3] = some y2 := hf 2 _ rfl
    simp only [List.map_cons, List.map_nil] at hw
    obtain ⟨a0, e0, _, b0⟩ := DataW.trod_int Try.underlying3 k0
    injection e0 with e0 _
    subst e0
    obtain ⟨r, e2, hr⟩ := rd_Tx (y := y1) rfl k1 (hw.part Try.underlying34 (j := 1) rfl rfl)
    obtain ⟨l3, g3, _, t3⟩ := rd_ints (d := y2.1) (pl := y2.2) k2 (hw.part Try.underlying34 (j := 2) rfl rfl)
    injection e2 with e2 e3
    injection e3 with e3 _
    subst e2 e3
    exact ⟨⟨a0, r, l3⟩, ⟨c3, rfl, g3⟩, hr, t3⟩
theorem arg_Acts9 {base : Nat} {v : Value} {d : DataW H} {ps : List MemPlace} {ts : List TypeId} {ds : List (DataW H)} (hsz : (DataW.weightsEach Try.prog ts ds).all (· ≤ reachBytes) = true) {j : Nat} (ht : ts[j]? = some 31) (hd : ds[j]? = some d)
    (hval : Value.okWide Try.prog W .any base 31 v) (h : DataW.Trod enc Try.prog W 0 (fun _ => true) true 31 v d ps) : ∃ l : List ActP, Recs 4 ActPR W v l := by
  obtain ⟨a0, len0, cap0, rfl⟩ := okWide_slice Try.underlying31 hval
  obtain ⟨fuel, hf⟩ := h
  obtain ⟨l, hl, _⟩ := rd_recs (n := 4) (R := ActPR) Try.underlying31 (by kernel_rfl) (fun fuel cs y hlen hy hw => rd_ActP hlen hy hw) hf (fits_arg hsz ht hd)
  exact ⟨l, hl⟩
/-- &acts[i] of what a law is handed. -/
theorem w_actidx {P : Program} {ops : Array Oper} {rest : List Oper} {o : Oper} {a : Act} {Q : Exit → Act → World → Prop} {w W0 : World} {t e : TypeId} {v : Value} {l : List ActP} (E : ElS P t e 4) (x y : Operand) (i : Nat) (hgd : o.guard = none) (ho : o.op = .indexAddr t x y) (hv : a.eval x = v) (hy : a.eval y = .int .i64 i)
    (h : Recs 4 ActPR W0 v l) (he : Ext W0 w) {d : ActP} (hd : l[i]? = some d) (k : ∀ p u, RowAt w p [.int .i64 d.k, .int .i64 d.t.id, .int .i64 d.t.fee, u] → Ints W0 u d.ids → d.t.Raw → d.ids.length * 8 ≤ 140737488351232 → wpList P ops Q rest (a.put o.dst (.pointer (some p))) w) : wpList P ops Q (o :: rest) a w := by
  have hi := (List.getElem?_eq_some_iff.1 hd).1
  have e : l[i] = d := (List.getElem?_eq_some_iff.1 hd).2
  refine w_ridx0 E x y i ActPR.stays hgd ho hv hy h he hi ?_
  rintro pa row hrow _ ⟨⟨u, rfl, hu⟩, hr, hl⟩
  rw [e] at hrow hu hr hl
  exact k pa u (hrow.ext he) hu hr hl
end
end Go.Proofs.Ytdacclcaopmalaa
