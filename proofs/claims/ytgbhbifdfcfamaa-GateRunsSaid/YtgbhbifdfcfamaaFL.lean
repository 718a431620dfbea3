/- From a law's contract (it returns true, and nothing that was there has turned) to its row, for any parameters. · From a law's contract to its row's second form: where what comes in is of small bulk. · Slices of records among a law's parameters: what they read as. · What a parameter of type []byte reads as. -/
import Derived.Test.YtgbhbifdfcfamaaFA
import Derived.Test.YtgbhbifdfcfamaaRows
import Derived.ProofKit
import Derived.SizedLaws
import Derived.Carry
import Derived.JoinedCond
import Derived.Deep.CondSized
import Derived.Test.YtgbhbifdfcfamaaFB
import Derived.Deep.Slices
namespace Go.Proofs.Ytgbhbifdfcfamaa
set_option maxRecDepth 100000
open Go.RowKit Go.ChangeShapes Go.WideShapes Go.ChangeAt

theorem Try.own_ : ownKnob Try.prog.godebug = none := by kernel_rfl
theorem Try.laid_ : laidOutB Try.prog = true := by kernel_rfl

theorem trodAll_below {H : Type} {enc : TypeId × Value → H} {P : Program} (hl : laidOutB P = true) {W W' : World} (hb : Below W.heap.size W W') :
    ∀ (ts : List TypeId) (vs : List Value) (ds : List (DataW H)) (ps : List MemPlace), (∀ t ∈ ts, P.readableRec t = true ∧ t < P.types.size) → (∀ x ∈ ps, x.block < W.heap.size) →
      DataW.TrodAll enc P W 0 (fun _ => true) true ts vs ds ps → DataW.TrodAll enc P W' 0 (fun b => decide (b < W.heap.size)) true ts vs ds ps
  | [], [], [], _, _, _, h => h
  | [], [], _ :: _, _, _, _, h => h.elim
  | [], _ :: _, _, _, _, _, h => by cases ‹List (DataW H)› <;> exact h.elim
  | _ :: _, [], _, _, _, _, h => by cases ‹List (DataW H)› <;> exact h.elim
  | _ :: _, _ :: _, [], _, _, _, h => h.elim
  | t :: ts, v :: vs, d :: ds, ps, hr, hlt, h => by
    obtain ⟨p, q, h1, h2, rfl⟩ := h
    exact ⟨p, q, Below.trod hl (hr t (List.mem_cons_self ..)).1 (hr t (List.mem_cons_self ..)).2 h1 hb (fun x hx => hlt x (List.mem_append_left _ hx)),
      trodAll_below hl hb ts vs ds q (fun t ht => hr t (List.mem_cons_of_mem _ ht)) (fun x hx => hlt x (List.mem_append_right _ hx)) h2, rfl⟩

/-- The law's row at every input: what is asked is the law's contract at what its parameters read as. -/
theorem law_lifted {f : FuncId} {fn : Func} {s : ChangeSpec} {conds : List PathCond} (hfn : Try.prog.funcs[f]? = some fn) (noInit : Try.prog.inits.idxOf? f = none) (hvars : s.vars = [])
    (hspec : ∀ (H : Type) (ds : List (DataW H)), ds.length = fn.params.size → s.fn H ds = { results := [.lit (.bool true)], args := ds }) (hrt : fn.resultTypes.toList = [4]) (hrs : fn.resultTypes.size = 1)
    (hread : ∀ t ∈ fn.params.toList, Try.prog.readableRec t = true ∧ t < Try.prog.types.size) (os : Os) (started : os.Started) (H : Type) (enc : TypeId × Value → H)
    (witness : ∃ (w : World) (tape : Tape) (i : Input), w.os = os ∧ (w.forCall tape i).Shaped Try.checked.prog ∧ i.vars = [] ∧ Input.okWide Try.checked.prog (w.forCall tape i) .any w.heap.size f i ∧
      s.pre6 enc Try.checked.prog fn conds false (w.forCall tape i).memory i.args ∧ ({} : Assume).holds Try.checked.prog (lone (Frame.enter Try.checked.prog f i.args .normal) [] (w.forCall tape i)))
    (law : ∀ (W : World) (base : Nat) (args : Array Value) (ds : List (DataW H)) (p : List MemPlace),
      (∀ (j : Nat) t v, fn.params[j]? = some t → args[j]? = some v → Value.okWide Try.prog W .any base t v) →
      DataW.TrodAll enc Try.prog W 0 (fun _ => true) true fn.params.toList args.toList ds p →
      (DataW.weightsEach Try.prog fn.params.toList ds).all (· ≤ reachBytes) = true →
      conds.all (PathCond.test Try.prog ⟨fn.params.toList, ds, [], []⟩) = true →
      Calls Try.prog f args W fun e W' => e = .returned (.bool true) ∧ Ext W W') :
    ReturnsInHanded {} Try.checked os f .any (s.pre6 enc Try.prog fn conds false) (s.post enc Try.prog fn false true false false) := by
  refine returnsInHanded_of_change_sized (C := Try.checked) Try.own_ started noInit hfn witness ?_
  intro W base args ds gs before hval hW hcnd hsz _
  have hW' := hW
  obtain ⟨p, q, hA, hV, rfl, _, _⟩ := hW
  rw [hvars] at hV
  obtain ⟨rfl, rfl⟩ := trodVars_none hV
  have hvt : s.plain.varTypes Try.checked.prog = [] := by simp [DataSpec.varTypes, ChangeSpec.plain, hvars]
  rw [hvt] at hsz hcnd
  simp only [List.append_nil] at hW' hsz
  have hlen : ds.length = fn.params.size := by
    have key : ∀ (ts : List TypeId) (vs : List Value) (ds : List (DataW H)) (ps : List MemPlace), DataW.TrodAll enc Try.prog W 0 (fun _ => true) true ts vs ds ps → ds.length = ts.length := by
      intro ts
      induction ts with
      | nil => intro vs ds ps h; cases vs <;> cases ds <;> first | rfl | exact h.elim
      | cons t ts ih =>
        intro vs ds ps h
        cases vs with
        | nil => exact h.elim
        | cons v vs =>
          cases ds with
          | nil => exact h.elim
          | cons d ds => obtain ⟨_, q, _, h2, _⟩ := h; simp [ih vs ds q h2]
    have := key _ _ _ _ hA; simpa using this
  refine (law W base args ds p hval hA hsz hcnd).mono fun e W' ⟨he, hb⟩ => ?_
  subst he
  refine ⟨_, rfl, ds, [], p, [], p, [], hW', ?_, ?_, ?_, Below.frame hb _, fun h => by cases h⟩
  · rw [List.append_nil, hspec H ds hlen, hrt, hrs]
    exact trodAll_mk1 (shut_bool Try.underlying4 _)
  · rw [List.append_nil, hspec H ds hlen]
    exact trodAll_below Try.laid_ hb _ _ _ _ hread (fun x hx => hW'.lt x hx) hA
  · rw [List.append_nil, hspec H ds hlen, hvars]; rfl

/-! ### What parameters read as -/
section
variable {H : Type} {enc : TypeId × Value → H} {W : World} {base : Nat} {v : Value} {d : DataW H} {ps : List MemPlace}
theorem arg_int (hval : Value.okWide Try.prog W .any base 3 v) (h : DataW.Trod enc Try.prog W 0 (fun _ => true) true 3 v d ps) : ∃ n : Int, v = .int .i64 n ∧ -9223372036854775808 ≤ n ∧ n ≤ 9223372036854775807 := by
  obtain ⟨n, rfl, rfl, rfl, wn⟩ := open_int Try.underlying3 hval h
  simp [Lit.wf, IntKind.min, IntKind.max, IntKind.signed, IntKind.bits] at wn
  exact ⟨n, rfl, by omega, by omega⟩
end
end Go.Proofs.Ytgbhbifdfcfamaa
namespace Go.Proofs.Ytgbhbifdfcfamaa
set_option maxRecDepth 100000
open Go.RowKit Go.ChangeShapes Go.WideShapes Go.ChangeAt

/-- The law's second form: where what comes in is of small bulk. -/
theorem law_lifted_upto {F : Stop.Interp} {f : FuncId} {fn : Func} {s : ChangeSpec} {conds : List PathCond} (hfn : Try.prog.funcs[f]? = some fn) (noInit : Try.prog.inits.idxOf? f = none) (hvars : s.vars = [])
    (hspec : ∀ (H : Type) (ds : List (DataW H)), ds.length = fn.params.size → s.fn H ds = { results := [.lit (.bool true)], args := ds }) (hrt : fn.resultTypes.toList = [4]) (hrs : fn.resultTypes.size = 1)
    (hread : ∀ t ∈ fn.params.toList, Try.prog.readableRec t = true ∧ t < Try.prog.types.size) (os : Os) (started : os.Started) (H : Type) (enc : TypeId × Value → H)
    (witness : ∃ (w : World) (tape : Tape) (i : Input), w.os = os ∧ (w.forCall tape i).Shaped Try.checked.prog ∧ i.vars = [] ∧ Input.okWide Try.checked.prog (w.forCall tape i) .any w.heap.size f i ∧
      (Rows.OpenSpec.upto s).pre6 enc Try.checked.prog fn conds false (w.forCall tape i).memory i.args ∧ ({} : Assume).holds Try.checked.prog (lone (Frame.enter Try.checked.prog f i.args .normal) [] (w.forCall tape i)))
    (law : ∀ (W : World) (base : Nat) (args : Array Value) (ds : List (DataW H)) (p : List MemPlace),
      (∀ (j : Nat) t v, fn.params[j]? = some t → args[j]? = some v → Value.okWide Try.prog W .any base t v) →
      DataW.TrodAll enc Try.prog W 0 (fun _ => true) true fn.params.toList args.toList ds p →
      (DataW.weightsEach Try.prog fn.params.toList ds).all (· ≤ reachBytes) = true →
      conds.all (PathCond.test Try.prog ⟨fn.params.toList, ds, [], []⟩) = true → Rows.uptoBulkAll ds ≤ 1048576 →
      Calls Try.prog f args W fun e W' => e = .returned (.bool true) ∧ Ext W W') :
    ReturnsInHanded {} Try.checked os f .any ((Rows.OpenSpec.upto s).pre6 enc Try.prog fn conds false) (((Rows.OpenSpec.upto s).at F).post enc Try.prog fn false true false false) := by
  refine returnsInHanded_of_cond_sized (C := Try.checked) (s := Rows.OpenSpec.upto s) (k := Rows.uptoSmall) rfl Try.own_ started noInit hfn witness ?_
  intro W base args ds gs before hval hW0 hcnd hk hsz _
  have hW : DataW.Whole enc Try.prog fn.params.toList s.vars false W args.toList ds gs before := hW0
  have hW' := hW
  obtain ⟨p, q, hA, hV, rfl, _, _⟩ := hW
  rw [hvars] at hV
  obtain ⟨rfl, rfl⟩ := trodVars_none hV
  have hvt : (Rows.OpenSpec.upto s).bare.plain.varTypes Try.checked.prog = [] := by show s.plain.varTypes Try.checked.prog = []; simp [DataSpec.varTypes, ChangeSpec.plain, hvars]
  rw [hvt] at hsz hcnd
  simp only [List.append_nil] at hW' hsz hk
  have hbulk : Rows.uptoBulkAll ds ≤ 1048576 := of_decide_eq_true hk
  have hlen : ds.length = fn.params.size := by
    have key : ∀ (ts : List TypeId) (vs : List Value) (ds : List (DataW H)) (ps : List MemPlace), DataW.TrodAll enc Try.prog W 0 (fun _ => true) true ts vs ds ps → ds.length = ts.length := by
      intro ts
      induction ts with
      | nil => intro vs ds ps h; cases vs <;> cases ds <;> first | rfl | exact h.elim
      | cons t ts ih =>
        intro vs ds ps h
        cases vs with
        | nil => exact h.elim
        | cons v vs =>
          cases ds with
          | nil => exact h.elim
          | cons d ds => obtain ⟨_, q, _, h2, _⟩ := h; simp [ih vs ds q h2]
    have := key _ _ _ _ hA; simpa using this
  rw [show (Rows.OpenSpec.upto s).at F = s from rfl]
  refine (law W base args ds p hval hA hsz hcnd hbulk).mono fun e W' ⟨he, hb⟩ => ?_
  subst he
  refine ⟨_, rfl, ds, [], p, [], p, [], hW', ?_, ?_, ?_, Below.frame hb _, fun h => by cases h⟩
  · rw [List.append_nil, hspec H ds hlen, hrt, hrs]
    exact trodAll_mk1 (shut_bool Try.underlying4 _)
  · rw [List.append_nil, hspec H ds hlen]
    exact trodAll_below Try.laid_ hb _ _ _ _ hread (fun x hx => hW'.lt x hx) hA
  · rw [List.append_nil, hspec H ds hlen, hvars]; rfl

end Go.Proofs.Ytgbhbifdfcfamaa
namespace Go.Proofs.Ytgbhbifdfcfamaa
set_option maxRecDepth 100000
open Go.RowKit Go.ChangeShapes Go.WideShapes Go.ChangeAt

section
variable {H : Type} {enc : TypeId × Value → H} {P : Program} {W : World} {v : Value}
/-- What a datum takes is within reach. -/
def Fits (P : Program) (t : TypeId) (d : DataW H) : Prop := ∀ n ∈ d.weights P t, n ≤ reachBytes
theorem fits_arg {ts : List TypeId} {ds : List (DataW H)} (hsz : (DataW.weightsEach P ts ds).all (· ≤ reachBytes) = true) {j : Nat} {t : TypeId} {d : DataW H} (ht : ts[j]? = some t) (hd : ds[j]? = some d) : Fits P t d :=
  fun n hn => by simpa using List.all_eq_true.1 hsz _ (DataW.weights_mem_each ht hd n hn)
theorem weightsAll_mem {e : TypeId} : ∀ {l : List (DataW H)} {d : DataW H}, d ∈ l → ∀ n ∈ d.weights P e, n ∈ DataW.weightsAll P e l
  | [], d, h, _, _ => by simp at h
  | d' :: l, d, h, n, hn => by
    rw [DataW.weightsAll]
    rcases List.mem_cons.1 h with rfl | h
    · exact List.mem_append_left _ hn
    · exact List.mem_append_right _ (weightsAll_mem h n hn)
theorem Fits.elem {t e : TypeId} {elems spare : List (DataW H)} (hu : P.underlying t = some (.slice e)) (h : Fits P t (.slice elems spare)) {d : DataW H} (hd : d ∈ elems) : Fits P e d := fun n hn =>
  h n (by simp only [DataW.weights, hu]; exact List.mem_cons_of_mem _ (List.mem_append_left _ (weightsAll_mem hd n hn)))
theorem Fits.slice {t e : TypeId} {elems spare : List (DataW H)} (hu : P.underlying t = some (.slice e)) (h : Fits P t (.slice elems spare)) : (elems.length + spare.length) * P.bytesOf e ≤ reachBytes :=
  h _ (by simp only [DataW.weights, hu]; exact List.mem_cons_self ..)
theorem Fits.part {t : TypeId} {fs : Array Field} {parts : List (DataW H)} (hu : P.underlying t = some (.struct fs)) (h : Fits P t (.agg parts)) {j : Nat} {f : Field} {d : DataW H} (hf : fs[j]? = some f) (hd : parts[j]? = some d) : Fits P f.type d := fun n hn =>
  h n (by simp only [DataW.weights, hu]; exact DataW.weights_mem_each (by simpa using ⟨f, hf, rfl⟩) hd n hn)

/-- A slice of records, where each record reads. -/
theorem rd_recs {α : Type} [Inhabited α] {R : World → List Value → α → Prop} {t e : TypeId} {n fuel : Nat} {d : DataW H} {pl : List MemPlace} (hu : P.underlying t = some (.slice e)) (hc : P.cellsOf e = n)
    (hone : ∀ (fuel : Nat) (cs : List Value) (y : DataW H × List MemPlace), cs.length = n → DataW.trod enc P W 0 (fun _ => true) true fuel e cs = some y → Fits P e y.1 → ∃ x, R W cs x)
    (hf : DataW.trod enc P W 0 (fun _ => true) true fuel t [v] = some (d, pl)) (hw : Fits P t d) : ∃ l, Recs n R W v l ∧ l.length * P.bytesOf e ≤ reachBytes := by
  rcases Deep.open_slice hu hf with ⟨h1, _⟩ | ⟨a, len, cap, m, k, D, Pl, h1, _, hlc, hcm, hm, hx, hr⟩
  · injection h1 with h1
    subst h1
    exact ⟨[], ⟨[], ⟨none, 0, rfl, by simp, by simp [maxLen], fun k row h => by simp at h⟩, rfl, fun k row d h => by simp at h⟩, by simp⟩
  · injection h1 with h1
    subst h1
    have hd : d = .slice ((List.range len).map D) ((List.range (m - len)).map fun j => D (len + j)) := congrArg Prod.fst hx
    subst hd
    simp only [if_true] at hm
    subst hm
    obtain ⟨f, hfx⟩ := Deep.choose_lt (α := List Value × α) (n := len) (p := fun i q => q.1.length = n ∧ RowAt W (a.add (i * n)) q.1 ∧ R W q.1 q.2) (fun i hi => by
      obtain ⟨cs', g1, g2⟩ := hr i (by omega)
      rw [hc] at g1
      obtain ⟨_, hlen, hcell⟩ := World.cells?_some g1
      obtain ⟨x, hx⟩ := hone k cs' _ hlen g2 (hw.elem hu (List.mem_map.2 ⟨i, List.mem_range.2 hi, rfl⟩))
      exact ⟨(cs', x), hlen, fun j u hj => by
        have hjl : j < n := by have h2 : j < cs'.length := (List.getElem?_eq_some_iff.1 hj).1; omega
        show W.cell? ((a.add (i * n)).add j) = some u
        rw [hcell j hjl]; exact hj, hx⟩)
    have hs := hw.slice hu
    simp only [List.length_map, List.length_range] at hs
    refine ⟨(List.range len).map fun i => (f i).2, ⟨(List.range len).map fun i => (f i).1, ⟨some a, m, by simp, by simpa using hlc, hcm, fun k row hk => ?_⟩, by simp, fun k row d hk hd => ?_⟩, ?_⟩
    · obtain ⟨hk', rfl⟩ := List.getElem?_eq_some_iff.1 hk
      simp at hk'
      obtain ⟨g1, g2, _⟩ := hfx k (by simpa using hk')
      simp only [List.getElem_map, List.getElem_range]
      exact ⟨g1, a, rfl, g2⟩
    · obtain ⟨hk', rfl⟩ := List.getElem?_eq_some_iff.1 hk
      obtain ⟨_, rfl⟩ := List.getElem?_eq_some_iff.1 hd
      simp only [List.length_map, List.length_range] at hk'
      simp only [List.getElem_map, List.getElem_range]
      exact (hfx k hk').2.2
    · simp only [List.length_map, List.length_range]
      exact Nat.le_trans (Nat.mul_le_mul_right _ (Nat.le_add_right _ _)) hs

/-- Bytes. -/
theorem rd_bytes {fuel : Nat} {d : DataW H} {pl : List MemPlace} (hf : DataW.trod enc Try.prog W 0 (fun _ => true) true fuel 33 [v] = some (d, pl)) (hw : Fits Try.prog 33 d) : ∃ l : List Nat, Byt W v l ∧ (∀ x ∈ l, x < 256) ∧ l.length ≤ 140737488351232 := by
  rcases open_ints Try.underlying33 Try.underlying5 (by kernel_rfl) hf with ⟨h1, _⟩ | ⟨a, len, cap, zs, h1, _, hlc, hcm, hzl, hx, hc, hwf⟩
  · injection h1 with h1
    subst h1
    exact ⟨[], Byt.nil W, by simp, by simp⟩
  · injection h1 with h1
    subst h1
    simp only [if_true] at hzl
    have hwn : ∀ n ∈ zs, 0 ≤ n ∧ n < 256 := fun n hn => by
      have := hwf n hn
      simp [Lit.wf, IntKind.min, IntKind.max, IntKind.signed, IntKind.bits] at this
      omega
    have hd2 : d = .slice (lits .u8 (zs.take len)) (lits .u8 (zs.drop len)) := congrArg Prod.fst hx
    subst hd2
    have hz2 := hw.slice Try.underlying33
    have hb5 : Try.prog.bytesOf 5 = 1 := by kernel_rfl
    have hreach : reachBytes = 140737488351232 := rfl
    rw [hb5, hreach] at hz2
    simp only [lits, List.length_map, List.length_take, List.length_drop, Nat.mul_one] at hz2
    refine ⟨(zs.take len).map Int.toNat, ?_, ?_, by simp; omega⟩
    · have hul : u8s ((zs.take len).map Int.toNat) = (zs.take len).map (Value.int .u8) := by
        unfold u8s; rw [List.map_map]
        refine List.map_congr_left fun n hn => ?_
        have := hwn n (List.mem_of_mem_take hn)
        simp only [Function.comp]
        rw [Int.toNat_of_nonneg this.1]
      unfold Byt; rw [hul]
      refine ⟨some a, cap, by simp; omega, by simp; omega, hcm, fun k u hk => ⟨a, rfl, ?_⟩⟩
      rw [List.getElem?_map, List.getElem?_take] at hk
      split at hk
      · rw [hc k (by omega)]
        have hkz : k < zs.length := by omega
        rw [List.getElem?_eq_getElem hkz] at hk
        simp at hk
        subst hk
        simp [List.getD, List.getElem?_eq_getElem hkz]
      · simp at hk
    · intro x hx'
      obtain ⟨n, hn, rfl⟩ := List.mem_map.1 hx'
      have := hwn n (List.mem_of_mem_take hn)
      omega
/-- Bytes as can be, in a record of one cell. -/
def BytOk (w : World) (row : List Value) (d : List Nat) : Prop := BytR w row d ∧ (∀ x ∈ d, x < 256) ∧ d.length ≤ 140737488351232
theorem BytOk.stays : Stays BytOk := fun _ _ _ _ h he => ⟨BytR.stays _ _ _ _ h.1 he, h.2⟩
end
end Go.Proofs.Ytgbhbifdfcfamaa
namespace Go.Proofs.Ytgbhbifdfcfamaa
set_option maxRecDepth 100000
open Go.RowKit Go.ChangeShapes Go.WideShapes Go.ChangeAt

section
variable {H : Type} {enc : TypeId × Value → H} {W : World} {base : Nat} {v : Value} {d : DataW H} {ps : List MemPlace}
theorem arg_bytes {ts : List TypeId} {ds : List (DataW H)} (hsz : (DataW.weightsEach Try.prog ts ds).all (· ≤ reachBytes) = true) {j : Nat} (ht : ts[j]? = some 33) (hd : ds[j]? = some d)
    (hval : Value.okWide Try.prog W .any base 33 v) (h : DataW.Trod enc Try.prog W 0 (fun _ => true) true 33 v d ps) : ∃ l : List Nat, Byt W v l ∧ (∀ x ∈ l, x < 256) ∧ l.length ≤ 140737488351232 := by
  obtain ⟨a0, len, cap, rfl⟩ := okWide_slice Try.underlying33 hval
  obtain ⟨fuel, hf⟩ := h
  rcases open_ints Try.underlying33 Try.underlying5 (by kernel_rfl) hf with ⟨h1, _⟩ | ⟨a, len', cap', zs, h1, _, hlc, hcm, hzl, hx, hc, hw⟩
  · simp only [Value.cells] at h1
    injection h1 with h1; injection h1 with e1 e2 e3
    subst e1 e2 e3
    exact ⟨[], Byt.nil W, by simp, by simp⟩
  · simp only [Value.cells] at h1
    injection h1 with h1; injection h1 with e1 e2 e3
    subst e1 e2 e3
    simp only [if_true] at hzl
    have hwn : ∀ n ∈ zs, 0 ≤ n ∧ n < 256 := fun n hn => by
      have := hw n hn
      simp [Lit.wf, IntKind.min, IntKind.max, IntKind.signed, IntKind.bits] at this
      omega
    have hd2 : d = .slice (lits .u8 (zs.take len)) (lits .u8 (zs.drop len)) := by
      have := congrArg Prod.fst hx; simpa using this
    have hz2 := sized_slice hsz ht (by rw [hd, hd2]) Try.underlying33
    have hb5 : Try.prog.bytesOf 5 = 1 := by kernel_rfl
    have hreach : reachBytes = 140737488351232 := rfl
    rw [hb5, hreach] at hz2
    simp only [lits, List.length_map, List.length_take, List.length_drop, Nat.mul_one] at hz2
    refine ⟨(zs.take len).map Int.toNat, ?_, ?_, by simp; omega⟩
    · have hul : u8s ((zs.take len).map Int.toNat) = (zs.take len).map (Value.int .u8) := by
        unfold u8s; rw [List.map_map]
        refine List.map_congr_left fun n hn => ?_
        have := hwn n (List.mem_of_mem_take hn)
        simp only [Function.comp]
        rw [Int.toNat_of_nonneg this.1]
      unfold Byt; rw [hul]
      refine ⟨some a, cap, by simp; omega, by simp; omega, hcm, fun k u hk => ⟨a, rfl, ?_⟩⟩
      rw [List.getElem?_map, List.getElem?_take] at hk
      split at hk
      · rw [hc k (by omega)]
        have hkz : k < zs.length := by omega
        rw [List.getElem?_eq_getElem hkz] at hk
        simp at hk
        subst hk
        simp [List.getD, List.getElem?_eq_getElem hkz]
      · simp at hk
    · intro x hx'
      obtain ⟨n, hn, rfl⟩ := List.mem_map.1 hx'
      have := hwn n (List.mem_of_mem_take hn)
      omega
end
end Go.Proofs.Ytgbhbifdfcfamaa
