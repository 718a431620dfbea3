/- What is done with a pool, among a law's parameters. -/
import Derived.Test.YtdoeoncmhaihbaaTXB
namespace Go.Proofs.Ytdoeoncmhaihbaa
set_option maxRecDepth 100000
open Go.RowKit Go.ChangeShapes Go.WideShapes Go.ChangeAt

section
variable {H : Type} {enc : TypeId × Value → H} {W : World}
theorem rd_ints {fuel : Nat} {v : Value} {d : DataW H} {pl : List MemPlace} (hf : DataW.trod enc Try.prog W 0 (fun _ => true) true fuel 25 [v] = some (d, pl)) (hw : Fits Try.prog 25 d) : ∃ l : List Int, Ints W v l ∧ (∀ x ∈ l, -9223372036854775808 ≤ x ∧ x ≤ 9223372036854775807) ∧ l.length * 8 ≤ 140737488351232 := by
  rcases open_ints Try.underlying25 Try.underlying3 (by kernel_rfl) hf with ⟨h1, _⟩ | ⟨a, len, cap, zs, h1, _, hlc, hcm, hzl, hx, hc, hwf⟩
  · injection h1 with h1
    subst h1
    exact ⟨[], Ints.nil W, by simp, by simp⟩
  · injection h1 with h1
    subst h1
    simp only [if_true] at hzl
    have hwn : ∀ n ∈ zs, -9223372036854775808 ≤ n ∧ n ≤ 9223372036854775807 := fun n hn => by
      have := hwf n hn
      simp [Lit.wf, IntKind.min, IntKind.max, IntKind.signed, IntKind.bits] at this
      omega
    have hd2 : d = .slice (lits .i64 (zs.take len)) (lits .i64 (zs.drop len)) := congrArg Prod.fst hx
    subst hd2
    have hz2 := hw.slice Try.underlying25
    have hb5 : Try.prog.bytesOf 3 = 8 := by kernel_rfl
    have hreach : reachBytes = 140737488351232 := rfl
    rw [hb5, hreach] at hz2
    simp only [lits, List.length_map, List.length_take, List.length_drop] at hz2
    refine ⟨zs.take len, ?_, fun x hx' => hwn x (List.mem_of_mem_take hx'), by simp; omega⟩
    refine ⟨some a, cap, by simp [i64s]; omega, by simp [i64s]; omega, hcm, fun k u hk => ⟨a, rfl, ?_⟩⟩
    rw [i64s, List.getElem?_map, List.getElem?_take] at hk
    split at hk
    · rw [hc k (by omega)]
      have hkz : k < zs.length := by omega
      rw [List.getElem?_eq_getElem hkz] at hk
      simp at hk
      subst hk
      simp [List.getD, List.getElem?_eq_getElem hkz]
    · simp at hk
end
structure ActP where
  k : Int
  t : TxD
  ids : List Int
instance : Inhabited ActP := ⟨⟨0, ⟨0, 0⟩, []⟩⟩
def ActPR (w : World) (row : List Value) (d : ActP) : Prop := (∃ u, row = [.int .i64 d.k, .int .i64 d.t.id, .int .i64 d.t.fee, u] ∧ Ints w u d.ids) ∧ d.t.Raw ∧ d.ids.length * 8 ≤ 140737488351232
theorem ActPR.stays : Stays ActPR := fun _ _ _ _ ⟨⟨u, h1, h2⟩, h4⟩ he => ⟨⟨u, h1, h2.ext he⟩, h4⟩
theorem Try.stTxN : StN Try.prog 56 2 [.int .i64 0, .int .i64 0] := StN.of (by kernel_rfl) (by kernel_rfl) rfl
section
variable {H : Type} {enc : TypeId × Value → H} {W : World}
/-- &acts[i] of what a law is handed. -/
theorem w_actidx {P : Program} {ops : Array Oper} {rest : List Oper} {o : Oper} {a : Act} {Q : Exit → Act → World → Prop} {w W0 : World} {t e : TypeId} {v : Value} {l : List ActP} (E : ElS P t e 4) (x y : Operand) (i : Nat) (hgd : o.guard = none) (ho : o.op = .indexAddr t x y) (hv : a.eval x = v) (hy : a.eval y = .int .i64 i)
    (h : Recs 4 ActPR W0 v l) (he : Ext W0 w) {d : ActP} (hd : l[i]? = some d) (k : ∀ p u, RowAt w p [.int .i64 d.k, .int .i64 d.t.id, .int .i64 d.t.fee, u] → Ints W0 u d.ids → d.t.Raw → d.ids.length * 8 ≤ 140737488351232 → wpList P ops Q rest (a.put o.dst (.pointer (some p))) w) : wpList P ops Q (o :: rest) a w := by
  have hi := (List.getElem?_eq_some_iff.1 hd).1
  have e : l[i] = d := (List.getElem?_eq_some_iff.1 hd).2
  refine w_ridx0 E x y i ActPR.stays hgd ho hv hy h he hi ?_
  rintro pa row hrow _ ⟨⟨u, rfl, hu⟩, hr, hl⟩
  rw [e] at hrow hu hr hl
  exact k pa u (hrow.ext he) hu hr hl
end
end Go.Proofs.Ytdoeoncmhaihbaa
