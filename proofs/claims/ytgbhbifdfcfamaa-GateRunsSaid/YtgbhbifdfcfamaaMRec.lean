/- A message, among a law's parameters; a message's cells, its parts, an array of its numbers. -/
import Derived.Test.YtgbhbifdfcfamaaMsgN
import Derived.Test.YtgbhbifdfcfamaaFC
import Derived.Test.YtgbhbifdfcfamaaFL
import Derived.ChangeKeysEq
namespace Go.Proofs.Ytgbhbifdfcfamaa
set_option maxRecDepth 100000
open Go.RowKit Go.ChangeShapes Go.WideShapes Go.ChangeAt

/-- The cells of a message. -/
def mRow (d : MsgD) (u : Value) : List Value := [.int .i64 d.kd, .int .i64 d.fm, .int .i64 d.ix, .int .i64 d.vw, .int .i64 d.vl, .int .i64 d.pr, .int .i64 d.tx.id, .int .i64 d.tx.fee, .int .i64 d.bk.slot, .int .i64 d.bk.miner, .int .i64 d.bk.var, .int .i64 d.bk.parent, u]
def bRw (d : BlkD) (u : Value) : List Value := [.int .i64 d.slot, .int .i64 d.miner, .int .i64 d.var, .int .i64 d.parent, u]
def tRw (d : TxD) : List Value := [.int .i64 d.id, .int .i64 d.fee]
def mZero : List Value := [.int .i64 0, .int .i64 0, .int .i64 0, .int .i64 0, .int .i64 0, .int .i64 0, .int .i64 0, .int .i64 0, .int .i64 0, .int .i64 0, .int .i64 0, .int .i64 0, .slice none 0 0]
structure MsgD.Raw (d : MsgD) : Prop where
  kd : I64 d.kd
  fm : I64 d.fm
  ix : I64 d.ix
  vw : I64 d.vw
  vl : I64 d.vl
  pr : I64 d.pr
  tx : d.tx.Raw
  bk : d.bk.Raw
  few : d.bk.txs.length * 16 ≤ 140737488355328
instance : Inhabited MsgD := ⟨MsgD.zero⟩
def MsgR (w : World) (row : List Value) (d : MsgD) : Prop := (∃ u, row = mRow d u ∧ Recs 2 TxR w u d.bk.txs) ∧ d.Raw
theorem MsgR.stays : Stays MsgR := fun _ _ _ _ ⟨⟨u, h1, h2⟩, h4⟩ he => ⟨⟨u, h1, h2.ext TxR.stays he⟩, h4⟩
theorem m_one {d : MsgD} {u : Value} (h : u.oneCell' = true) : ∀ x ∈ mRow d u, x.oneCell' = true := by
  intro x hx
  simp only [mRow, List.mem_cons, List.not_mem_nil, or_false] at hx
  rcases hx with rfl | rfl | rfl | rfl | rfl | rfl | rfl | rfl | rfl | rfl | rfl | rfl | rfl
  all_goals first | rfl | assumption
theorem b_one {d : BlkD} {u : Value} (h : u.oneCell' = true) : ∀ x ∈ bRw d u, x.oneCell' = true := blk_one h
theorem mself_at {cs : List Value} : ∀ (j : Nat) (x : Value), cs[j]? = some x → cs[0 + j]? = some x := fun j x h => by rw [Nat.zero_add]; exact h
theorem mtx_at (d : MsgD) (u : Value) : ∀ (j : Nat) (x : Value), (tRw d.tx)[j]? = some x → (mRow d u)[6 + j]? = some x := fun j x h => by
  match j, h with
  | 0, h => exact h
  | 1, h => exact h
  | j + 2, h => simp [tRw] at h
theorem mbk_at (d : MsgD) (u : Value) : ∀ (j : Nat) (x : Value), (bRw d.bk u)[j]? = some x → (mRow d u)[8 + j]? = some x := fun j x h => by
  match j, h with
  | 0, h => exact h
  | 1, h => exact h
  | 2, h => exact h
  | 3, h => exact h
  | 4, h => exact h
  | j + 5, h => simp [bRw] at h
theorem Try.stMsg : StN Try.prog 48 13 mZero := StN.of (by kernel_rfl) (by kernel_rfl) rfl
theorem Try.stBlkM : StN Try.prog 46 5 [.int .i64 0, .int .i64 0, .int .i64 0, .int .i64 0, .slice none 0 0] := StN.of (by kernel_rfl) (by kernel_rfl) rfl
theorem Try.stTxM : StN Try.prog 43 2 [.int .i64 0, .int .i64 0] := StN.of (by kernel_rfl) (by kernel_rfl) rfl
section
variable {H : Type} {enc : TypeId × Value → H} {W : World}
theorem rd_BlkF {fuel : Nat} {cs : List Value} {y : DataW H × List MemPlace} (hlen : cs.length = 5) (hy : DataW.trod enc Try.prog W 0 (fun _ => true) true fuel 46 cs = some y) (hw : Fits Try.prog 46 y.1) : ∃ d, BlkR W cs d ∧ d.txs.length * 16 ≤ 140737488355328 := by
  obtain ⟨d, hd⟩ := rd_Blk hlen hy hw
  refine ⟨d, hd, ?_⟩
  obtain ⟨xs, m, _, rfl, _, hxl, hf⟩ := DataW.trod_struct Try.underlying46 hy
  obtain ⟨⟨u4, rfl, hr⟩, _⟩ := hd
  match xs, hxl with
  | [y0, y1, y2, y3, y4], _ =>
    have k4 : DataW.trod enc Try.prog W 0 (fun _ => true) true m 44 [u4] = some y4 := hf 4 _ rfl
    simp only [List.map_cons, List.map_nil] at hw
    obtain ⟨l4, g4, b4⟩ := rd_recs (d := y4.1) (pl := y4.2) (n := 2) (R := TxR) Try.underlying44 (by kernel_rfl) (fun fuel cs y hlen hy hw => rd_Tx hlen hy hw) k4 (hw.part Try.underlying46 (j := 4) rfl rfl)
    rw [show Try.prog.bytesOf 43 = 16 from by kernel_rfl] at b4
    have e : l4.length = d.txs.length := by
      obtain ⟨r1, ⟨A1, c1, e1, _⟩, q1, _⟩ := g4
      obtain ⟨r2, ⟨A2, c2, e2, _⟩, q2, _⟩ := hr
      rw [e1] at e2
      injection e2 with _ e2 _
      omega
    have : reachBytes ≤ 140737488355328 := by decide
    omega
theorem rd_Msg {fuel : Nat} {cs : List Value} {y : DataW H × List MemPlace} (hlen : cs.length = 13) (hy : DataW.trod enc Try.prog W 0 (fun _ => true) true fuel 48 cs = some y) (hw : Fits Try.prog 48 y.1) : ∃ d, MsgR W cs d := by
  obtain ⟨xs, m, _, rfl, _, hxl, hf⟩ := DataW.trod_struct Try.underlying48 hy
  match xs, hxl, cs, hlen with
  | [y0, y1, y2, y3, y4, y5, y6, y7], _, [c0, c1, c2, c3, c4, c5, c6, c7, c8, c9, c10, c11, c12], _ =>
    have k0 : DataW.trod enc Try.prog W 0 (fun _ => true) true m 3 [c0] = some y0 := hf 0 _ rfl
    have k1 : DataW.trod enc Try.prog W 0 (fun _ => true) true m 3 [c1] = some y1 := hf 1 _ rfl
    have k2 : DataW.trod enc Try.prog W 0 (fun _ => true) true m 3 [c2] = some y2 := hf 2 _ rfl
    have k3 : DataW.trod enc Try.prog W 0 (fun _ => true) true m 3 [c3] = some y3 := hf 3 _ rfl
    have k4 : DataW.trod enc Try.prog W 0 (fun _ => true) true m 3 [c4] = some y4 := hf 4 _ rfl
    have k5 : DataW.trod enc Try.prog W 0 (fun _ => true) true m 3 [c5] = some y5 := hf 5 _ rfl
    have k6 : DataW.trod enc Try.prog W 0 (fun _ => true) true m 43 [c6, c7] = some y6 := hf 6 _ rfl
    have k7 : DataW.trod enc Try.prog W 0 (fun _ => true) true m 46 [c8, c9, c10, c11, c12] = some y7 := hf 7 _ rfl
    simp only [List.map_cons, List.map_nil] at hw
    obtain ⟨a0, e0, _, b0⟩ := DataW.trod_int Try.underlying3 k0
    obtain ⟨a1, e1, _, b1⟩ := DataW.trod_int Try.underlying3 k1
    obtain ⟨a2, e2, _, b2⟩ := DataW.trod_int Try.underlying3 k2
    obtain ⟨a3, e3, _, b3⟩ := DataW.trod_int Try.underlying3 k3
    obtain ⟨a4, e4, _, b4⟩ := DataW.trod_int Try.underlying3 k4
    obtain ⟨a5, e5, _, b5⟩ := DataW.trod_int Try.underlying3 k5
    injection e0 with e0 _
    injection e1 with e1 _
    injection e2 with e2 _
    injection e3 with e3 _
    injection e4 with e4 _
    injection e5 with e5 _
    subst e0 e1 e2 e3 e4 e5
    obtain ⟨t, ht, hraw⟩ := rd_Tx (y := y6) rfl k6 (hw.part Try.underlying48 (j := 6) rfl rfl)
    obtain ⟨b, ⟨⟨u, hb, hr⟩, hbr⟩, hfew⟩ := rd_BlkF (y := y7) rfl k7 (hw.part Try.underlying48 (j := 7) rfl rfl)
    injection ht with e6 ht
    injection ht with e7 _
    injection hb with e8 hb
    injection hb with e9 hb
    injection hb with e10 hb
    injection hb with e11 hb
    injection hb with e12 _
    subst e6 e7 e8 e9 e10 e11 e12
    exact ⟨⟨a0, a1, a2, a3, a4, a5, t, b⟩, ⟨_, rfl, hr⟩, ⟨i64_wf b0, i64_wf b1, i64_wf b2, i64_wf b3, i64_wf b4, i64_wf b5, hraw, hbr, hfew⟩⟩
theorem arg_Msg {base : Nat} {v : Value} {d : DataW H} {ps : List MemPlace} {ts : List TypeId} {ds : List (DataW H)} (hsz : (DataW.weightsEach Try.prog ts ds).all (· ≤ reachBytes) = true) {j : Nat} (ht : ts[j]? = some 48) (hd : ds[j]? = some d)
    (hval : Value.okWide Try.prog W .any base 48 v) (h : DataW.Trod enc Try.prog W 0 (fun _ => true) true 48 v d ps) : ∃ (row : List Value) (x : MsgD), v = .agg row.toArray ∧ row.length = 13 ∧ MsgR W row x := by
  have hu := Try.underlying48
  simp only [Value.okWide, hu] at hval
  obtain ⟨cs, rfl, hcs, _⟩ := hval
  have hc : Try.prog.cellsOf 48 = 13 := by kernel_rfl
  rw [hc] at hcs
  obtain ⟨fuel, hf⟩ := h
  obtain ⟨x, hx⟩ := rd_Msg (cs := cs.toList) (by simpa using hcs) hf (fits_arg hsz ht hd)
  exact ⟨cs.toList, x, by simp, by simpa using hcs, hx⟩
end

/-! ### Structs and arrays as variables -/
structure AgT (P : Program) (t : TypeId) (n : Nat) (zs : List Value) : Prop where
  ag : ∀ w, (isAgg t).run P w = .ok true w
  info : ∃ i : TypeInfo, P.info? t = some i ∧ i.zero = some (.agg zs.toArray) ∧ i.size = n
  zl : zs.length = n
theorem AgT.of {P : Program} {t : TypeId} {n : Nat} {zs : List Value} (h : (match P.underlying t with | some (.struct _) => true | some (.array _ _) => true | _ => false) = true) (hz : (P.info? t).map (fun i => (i.zero, i.size)) = some (some (.agg zs.toArray), n)) (hl : zs.length = n) : AgT P t n zs := by
  refine ⟨fun w => ?_, ?_, hl⟩
  · cases hu : P.underlying t with
    | none => rw [hu] at h; cases h
    | some u => rw [hu] at h; cases u <;> first | (cases h; done) | simp [isAgg, run_underlying hu]
  · cases hq : P.info? t with
    | none => rw [hq] at hz; simp at hz
    | some i => rw [hq] at hz; simp at hz; exact ⟨i, rfl, hz.1, hz.2⟩
theorem Try.agMsg : AgT Try.prog 48 13 mZero := AgT.of (by kernel_rfl) (by kernel_rfl) rfl
theorem Try.ag6 : AgT Try.prog 127 6 [.int .i64 0, .int .i64 0, .int .i64 0, .int .i64 0, .int .i64 0, .int .i64 0] := AgT.of (by kernel_rfl) (by kernel_rfl) rfl
section
variable {P : Program} {ops : Array Oper} {rest : List Oper} {o : Oper} {a : Act} {Q : Exit → Act → World → Prop} {w : World} {t : TypeId} {n : Nat} {zs : List Value}
theorem run_loadVar_ag (E : AgT P t n zs) {g : Nat} {cs : List Value} (h : Fs w g cs) (hl : cs.length = n) : (loadVar t ⟨g, 0, none⟩).run P w = .ok (.agg cs.toArray) w := by
  obtain ⟨i0, hi, _, hs⟩ := E.info
  have hc := run_loadCells_list (P := P) w ⟨g, 0, none⟩ cs (fun j u hj => by rw [add_zero_off]; exact h.cell hj)
  rw [hl] at hc
  simp [loadVar, E.ag, sizeOf, typeInfo, hi, hs, hc]
theorem ag_one (E : AgT P t n zs) {fn : Func} {s g : Nat} {cs : List Value} {tmps : Array Value} (hrs : fn.results = #[.cell s t]) (hp : tmps.getD s undef = .pointer (some ⟨g, 0, none⟩)) (h : Fs w g cs) (hl : cs.length = n) :
    (results fn tmps).run P w = .ok (.agg cs.toArray) w := by
  have hr := run_loadVar_ag E h hl
  rw [Array.getD_eq_getD_getElem?] at hp
  simp only [results, hrs]
  simp [hp, asAddr, hr]
theorem ag_two (E : AgT P t n zs) {fn : Func} {s s' g : Nat} {cs : List Value} {tmps : Array Value} {v : Value} (hrs : fn.results = #[.cell s t, .tmp s']) (hp : tmps.getD s undef = .pointer (some ⟨g, 0, none⟩)) (hv : tmps.getD s' undef = v) (h : Fs w g cs) (hl : cs.length = n) :
    (results fn tmps).run P w = .ok (.tuple #[.agg cs.toArray, v]) w := by
  have hr := run_loadVar_ag E h hl
  rw [Array.getD_eq_getD_getElem?] at hp hv
  simp only [results, hrs]
  simp [hp, hv, asAddr, hr]
/-- A variable of its own, of value zero. -/
theorem w_agalloc (E : AgT P t n zs) (hgd : o.guard = none) (ho : o.op = .alloc t)
    (k : ∀ g w', w.heap.size ≤ g → Ext w w' → Fs w' g zs → wpList P ops Q rest (a.put o.dst (.pointer (some ⟨g, 0, none⟩))) w') : wpList P ops Q (o :: rest) a w := by
  obtain ⟨i0, hi, hz, hs⟩ := E.info
  refine wpList_plain hgd fun K hK => ?_
  have hk := hK _ _ (k _ _ (Nat.le_refl _) ((Ext.refl w).alloc (.cells zs.toArray t)) (by simpa using Fs.alloc w zs.toArray t))
  unfold Oper.wp execOp
  simp [ho, Instr.alloc, newVar, newRow, zeroValue, typeInfo, hi, hz, Value.cells]
  exact hk
theorem setCells_at {w : World} {g off : Nat} {cs us : List Value} (h : Fs w g cs) (hb : off + us.length ≤ cs.length) : Fs (w.setCells g off us) g (cs.take off ++ us ++ cs.drop (off + us.length)) := by
  have e : cs = cs.take off ++ (cs.drop off).take us.length ++ cs.drop (off + us.length) := by
    rw [List.append_assoc, ← List.drop_drop, List.take_append_drop, List.take_append_drop]
  exact setCells_fs us off (pre := cs.take off) (post := cs.drop (off + us.length)) (old := (cs.drop off).take us.length) (by rw [← e]; exact h) (by rw [List.length_take]; omega) (by rw [List.length_take, List.length_drop]; omega)
/-- A struct or an array within what a variable holds, written. -/
theorem w_agstore (E : AgT P t n zs) (x y : Operand) {g off : Nat} {cs us : List Value} (hgd : o.guard = none) (ho : o.op = .store t x y) (hd : o.dst = none) (hx : a.eval x = .pointer (some ⟨g, off, none⟩)) (hy : a.eval y = .agg us.toArray) (h : Fs w g cs) (hl' : us.length = n) (hb : off + n ≤ cs.length) (h1 : ∀ u ∈ us, u.oneCell' = true)
    (k : ∀ w', Mod (fun k => k = g) w w' → Fs w' g (cs.take off ++ us ++ cs.drop (off + us.length)) → wpList P ops Q rest a w') : wpList P ops Q (o :: rest) a w := by
  obtain ⟨i0, hi, _, hs⟩ := E.info
  refine wpList_plain hgd fun K hK => ?_
  have hr := run_storeCells_cells (P := P) g off us 0 w (fun j hj => by
    have hj' : off + j < cs.length := by omega
    have := h.cell (List.getElem?_eq_getElem hj')
    simp [this]) (fun j _ => by simpa using h.frozen (off + j)) h1
  have hk := hK _ _ (k _ (setCells_mod us off w g) (setCells_at h (by omega)))
  unfold Oper.wp execOp
  simp only [ho, hx, hy, Sem.run_bind, Instr.storeAt, storeVar, Instr.sureAddr, Sem.run_pure, Result.andThen_ok, sizeOf, typeInfo]
  simp [hi, hs, hl', Value.cells]
  simp at hr
  simp [hr, Oper.upon, hd, Act.put]
  exact hk
/-- The whole of it, written. -/
theorem w_agput (E : AgT P t n zs) (x y : Operand) {g : Nat} {cs us : List Value} (hgd : o.guard = none) (ho : o.op = .store t x y) (hd : o.dst = none) (hx : a.eval x = .pointer (some ⟨g, 0, none⟩)) (hy : a.eval y = .agg us.toArray) (h : Fs w g cs) (hl : cs.length = n) (hl' : us.length = n) (h1 : ∀ u ∈ us, u.oneCell' = true)
    (k : ∀ w', Mod (fun k => k = g) w w' → Fs w' g us → wpList P ops Q rest a w') : wpList P ops Q (o :: rest) a w :=
  w_agstore E x y hgd ho hd hx hy h hl' (by omega) h1 fun w' hm hf => k w' hm (by
    rw [List.take_zero, List.nil_append, List.drop_eq_nil_of_le (by omega), List.append_nil] at hf; exact hf)
end
/-! ### A message's parts -/
def mOff : Nat → Nat
  | 7 => 8
  | n => n
theorem m_field : ∀ i, i < 8 → fieldB Try.prog 48 i (mOff i) = true := by
  intro i hi
  match i, hi with
  | 0, _ => exact (by kernel_rfl : fieldB Try.prog 48 0 0 = true)
  | 1, _ => exact (by kernel_rfl : fieldB Try.prog 48 1 1 = true)
  | 2, _ => exact (by kernel_rfl : fieldB Try.prog 48 2 2 = true)
  | 3, _ => exact (by kernel_rfl : fieldB Try.prog 48 3 3 = true)
  | 4, _ => exact (by kernel_rfl : fieldB Try.prog 48 4 4 = true)
  | 5, _ => exact (by kernel_rfl : fieldB Try.prog 48 5 5 = true)
  | 6, _ => exact (by kernel_rfl : fieldB Try.prog 48 6 6 = true)
  | 7, _ => exact (by kernel_rfl : fieldB Try.prog 48 7 8 = true)
section
variable {ops : Array Oper} {rest : List Oper} {o : Oper} {a : Act} {Q : Exit → Act → World → Prop} {w : World}
theorem runs_mfield {ρ : Operand → Value} (x : Operand) (g i : Nat) (ho : o.op = .fieldAddr 48 x i) (hx : ρ x = .pointer (some ⟨g, 0, none⟩)) (hi : i < 8) : Runs Try.prog o ρ w (.pointer (some ⟨g, mOff i, none⟩)) := runs_fieldN (m_field i hi) x g ho hx
theorem w_mfield (x : Operand) (g i : Nat) (hgd : o.guard = none) (ho : o.op = .fieldAddr 48 x i) (hx : a.eval x = .pointer (some ⟨g, 0, none⟩)) (hi : i < 8)
    (k : wpList Try.prog ops Q rest (a.put o.dst (.pointer (some ⟨g, mOff i, none⟩))) w) : wpList Try.prog ops Q (o :: rest) a w := wpList_runs hgd (runs_mfield x g i ho hx hi) k
/-- A message written out: numbers alone. -/
theorem run_mbuild (ps : List (Nat × Value)) (arr : Array (Nat × Value)) (harr : arr.toList = ps) (hone : ∀ p ∈ ps, p.1 < 6 ∧ p.2.cells = #[p.2]) (us : List Value) (hus : ps.foldl (fun acc p => acc.set p.1 p.2) mZero = us) : (Instr.build 48 arr).run Try.prog w = .ok (.agg us.toArray) w := by
  obtain ⟨i0, hi, hz, hs⟩ := Try.stMsg.info
  have hfill := fill_st ps mZero (fun i => [(0, 1), (1, 1), (2, 1), (3, 1), (4, 1), (5, 1), (6, 2), (8, 5)][i]?) fun p hp => by
    obtain ⟨h1, h2⟩ := hone p hp
    refine ⟨?_, by show p.1 < 13; omega, h2⟩
    obtain ⟨n, v⟩ := p
    simp only at h1
    match n, h1 with
    | 0, _ => rfl
    | 1, _ => rfl
    | 2, _ => rfl
    | 3, _ => rfl
    | 4, _ => rfl
    | 5, _ => rfl
  rw [hus] at hfill
  unfold Instr.build
  have hzv : (zeroValue 48).run Try.prog w = .ok (.agg mZero.toArray) w := by simp [zeroValue, typeInfo, hi, hz]
  rw [Sem.run_bind, hzv, Result.andThen_ok]
  dsimp only
  rw [Sem.run_bind, run_underlying Try.underlying48, Result.andThen_ok]
  simp only [Value.cells, harr]
  simp [Try.sizeOf3, Try.sizeOf43, Try.sizeOf46]
  rw [hfill]
  rfl
end
section
variable {P : Program} {ops : Array Oper} {a : Act} {w : World} {r : List Sp} {o : Oper} {t : TypeId} {n lo : Nat} {zs : List Value}
theorem op_agalloc (E : AgT P t n zs) (hle : lo ≤ w.heap.size) (hgd : o.guard = none) (ho : o.op = .alloc t) : opOk P ops a w r o [] (Sp.fs lo zs) := by
  intro σ w' hx hg
  rw [if_pos (wanted_none hgd _)]
  obtain ⟨i0, hi, hz, hs⟩ := E.info
  have hf : Fs (w'.alloc (.cells zs.toArray t)) w'.heap.size zs := by simpa using Fs.alloc w' zs.toArray t
  unfold Oper.wp execOp
  simp [ho, Instr.alloc, newVar, newRow, zeroValue, typeInfo, hi, hz, Value.cells]
  exact ⟨_, rfl, (Ext.refl _).alloc _, _, rfl, Nat.le_trans hle hx.size, hf⟩
end
end Go.Proofs.Ytgbhbifdfcfamaa
