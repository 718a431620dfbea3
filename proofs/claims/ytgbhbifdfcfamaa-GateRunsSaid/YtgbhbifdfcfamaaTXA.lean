/- A transaction, among a law's parameters. · The contracts of Right and Less, of package tx and of the document's; two transactions compared. · The contracts of Less, of package tx and of the document's; two transactions compared. · The contracts of Bytes, of package tx and of the document's. · The contract of tx.anyTwice: has one number two transactions? -/
import Derived.Test.YtgbhbifdfcfamaaFL
import Derived.Test.YtgbhbifdfcfamaaFM
import Derived.Test.YtgbhbifdfcfamaaFB
import Derived.Laws.StructEq
namespace Go.Proofs.Ytgbhbifdfcfamaa
set_option maxRecDepth 100000
open Go.RowKit Go.ChangeShapes Go.WideShapes Go.ChangeAt

theorem i64_wf {n : Int} (h : (Lit.int .i64 n).wf = true) : -9223372036854775808 ≤ n ∧ n ≤ 9223372036854775807 := by
  simp [Lit.wf, IntKind.min, IntKind.max, IntKind.signed, IntKind.bits] at h; omega
/-- What every record of a slice is. -/
theorem recs_ok_of {α : Type} {n : Nat} {R : World → List Value → α → Prop} {w : World} {v : Value} {l : List α} {p : α → Prop} (h : Recs n R w v l) (hp : ∀ w row d, R w row d → p d) : ∀ d ∈ l, p d := by
  obtain ⟨rows, _, hl, hr⟩ := h
  intro d hd
  obtain ⟨k, hk, rfl⟩ := List.getElem_of_mem hd
  exact hp _ _ _ (hr k _ _ (List.getElem?_eq_getElem (by omega)) (List.getElem?_eq_getElem hk))
instance : Inhabited TxD := ⟨⟨0, 0⟩⟩
structure TxD.Raw (d : TxD) : Prop where
  id : -9223372036854775808 ≤ d.id ∧ d.id ≤ 9223372036854775807
  fee : -9223372036854775808 ≤ d.fee ∧ d.fee ≤ 9223372036854775807
/-- The cells of a record. -/
def TxR (_w : World) (row : List Value) (d : TxD) : Prop := (row = [.int .i64 d.id, .int .i64 d.fee]) ∧ d.Raw
theorem TxR.stays : Stays TxR := fun _ _ _ _ h _ => h
theorem Try.stTx : St Try.prog 43 2 [.int .i64 0, .int .i64 0] := St.of (by kernel_rfl) (by kernel_rfl) rfl
theorem Try.elTx : ElS Try.prog 44 43 2 := ElS.of Try.underlying44 (by kernel_rfl)
section
variable {H : Type} {enc : TypeId × Value → H} {W : World}
theorem rd_Tx {fuel : Nat} {cs : List Value} {y : DataW H × List MemPlace} (hlen : cs.length = 2) (hy : DataW.trod enc Try.prog W 0 (fun _ => true) true fuel 43 cs = some y) (hw : Fits Try.prog 43 y.1) : ∃ d, TxR W cs d := by
  obtain ⟨xs, m, _, rfl, _, hxl, hf⟩ := DataW.trod_struct Try.underlying43 hy
  match xs, hxl, cs, hlen with
  | [y0, y1], _, [c0, c1], _ =>
    have k0 : DataW.trod enc Try.prog W 0 (fun _ => true) true m 3 [c0] = some y0 := hf 0 _ rfl
    have k1 : DataW.trod enc Try.prog W 0 (fun _ => true) true m 3 [c1] = some y1 := hf 1 _ rfl
    simp only [List.map_cons, List.map_nil] at hw
    obtain ⟨a0, e0, _, b0⟩ := DataW.trod_int Try.underlying3 k0
    injection e0 with e0 _
    subst e0
    obtain ⟨a1, e1, _, b1⟩ := DataW.trod_int Try.underlying3 k1
    injection e1 with e1 _
    subst e1
    exact ⟨⟨a0, a1⟩, rfl, ⟨i64_wf b0, i64_wf b1⟩⟩
theorem arg_Tx {base : Nat} {v : Value} {d : DataW H} {ps : List MemPlace} {ts : List TypeId} {ds : List (DataW H)} (hsz : (DataW.weightsEach Try.prog ts ds).all (· ≤ reachBytes) = true) {j : Nat} (ht : ts[j]? = some 43) (hd : ds[j]? = some d)
    (hval : Value.okWide Try.prog W .any base 43 v) (h : DataW.Trod enc Try.prog W 0 (fun _ => true) true 43 v d ps) : ∃ (row : List Value) (x : TxD), v = .agg row.toArray ∧ row.length = 2 ∧ TxR W row x := by
  have hu := Try.underlying43
  simp only [Value.okWide, hu] at hval
  obtain ⟨cs, rfl, hcs, _⟩ := hval
  have hc : Try.prog.cellsOf 43 = 2 := by kernel_rfl
  rw [hc] at hcs
  obtain ⟨fuel, hf⟩ := h
  obtain ⟨x, hx⟩ := rd_Tx (cs := cs.toList) (by simpa using hcs) hf (fits_arg hsz ht hd)
  exact ⟨cs.toList, x, by simp, by simpa using hcs, hx⟩
theorem arg_Txs {base : Nat} {v : Value} {d : DataW H} {ps : List MemPlace} {ts : List TypeId} {ds : List (DataW H)} (hsz : (DataW.weightsEach Try.prog ts ds).all (· ≤ reachBytes) = true) {j : Nat} (ht : ts[j]? = some 44) (hd : ds[j]? = some d)
    (hval : Value.okWide Try.prog W .any base 44 v) (h : DataW.Trod enc Try.prog W 0 (fun _ => true) true 44 v d ps) : ∃ l : List TxD, Recs 2 TxR W v l := by
  obtain ⟨a0, len0, cap0, rfl⟩ := okWide_slice Try.underlying44 hval
  obtain ⟨fuel, hf⟩ := h
  obtain ⟨l, hl, _⟩ := rd_recs (n := 2) (R := TxR) Try.underlying44 (by kernel_rfl) (fun fuel cs y hlen hy hw => rd_Tx hlen hy hw) hf (fits_arg hsz ht hd)
  exact ⟨l, hl⟩
theorem arg_TxsL {base : Nat} {v : Value} {d : DataW H} {ps : List MemPlace} {ts : List TypeId} {ds : List (DataW H)} (hsz : (DataW.weightsEach Try.prog ts ds).all (· ≤ reachBytes) = true) {j : Nat} (ht : ts[j]? = some 44) (hd : ds[j]? = some d)
    (hval : Value.okWide Try.prog W .any base 44 v) (h : DataW.Trod enc Try.prog W 0 (fun _ => true) true 44 v d ps) : ∃ l : List TxD, Recs 2 TxR W v l ∧ l.length * Try.prog.bytesOf 43 ≤ reachBytes := by
  obtain ⟨a0, len0, cap0, rfl⟩ := okWide_slice Try.underlying44 hval
  obtain ⟨fuel, hf⟩ := h
  exact rd_recs (n := 2) (R := TxR) Try.underlying44 (by kernel_rfl) (fun fuel cs y hlen hy hw => rd_Tx hlen hy hw) hf (fits_arg hsz ht hd)
end
end Go.Proofs.Ytgbhbifdfcfamaa
namespace Go.Proofs.Ytgbhbifdfcfamaa
set_option maxRecDepth 100000
open Go.RowKit

set_option maxRecDepth 100000 in
set_option maxHeartbeats 800000 in
theorem Right_any (t : TxD) (w : World) : Calls Try.prog 63 #[.agg #[.int .i64 t.id, .int .i64 t.fee]] w fun e w' => e = .returned (.bool (decide t.Right)) ∧ Ext w w' := by
  refine calls_keep ?_
  by_cases h1 : 1 ≤ t.id
  · have t1 : decide (1 ≤ t.id) = true := by simpa using h1
    by_cases h2 : t.id ≤ 1000000
    · have t2 : decide (t.id ≤ 1000000) = true := by simpa using h2
      by_cases h3 : 0 ≤ t.fee
      · have t3 : decide (0 ≤ t.fee) = true := by simpa using h3
        by_cases h4 : t.fee ≤ 1000
        · have t4 : decide (t.fee ≤ 1000) = true := by simpa using h4
          have hdec := hide_ (show decide t.Right = true from decide_eq_true ⟨by omega, h2, h3, h4⟩)
          clear h1 h2 h3 h4
          go_enter Try.func63, Try.ntmps63
          go_wp2_with ((first
            | (refine w_box _ [.int .i64 t.id, .int .i64 t.fee] rfl rfl rfl rfl ?_; intro g1 w1 hg1 hX f1)
            | ((try refine w_yes _ _ _ rfl rfl rfl ?_); refine w_field Try.stTx _ _ _ rfl rfl rfl (by omega) ?_)
            | ((try refine w_yes _ _ _ rfl rfl rfl ?_); refine w_fload _ rfl rfl rfl f1 rfl (agg_of (by kernel_rfl)) ?_)
            | fail) <;> (try simp only [Act.put, List.setIfInBounds_toArray, List.set_cons_zero, List.set_cons_succ]))
          go_ret
          exact Keep.intro ⟨by rw [hdec.out]; rfl, hX⟩
        · have t4 : decide (t.fee ≤ 1000) = false := by simpa using h4
          have hdec := hide_ (show decide t.Right = false from decide_eq_false (fun h => h4 (by have := h.2.2.2; omega)))
          clear h1 h2 h3 h4
          go_enter Try.func63, Try.ntmps63
          go_wp2_with ((first
            | (refine w_box _ [.int .i64 t.id, .int .i64 t.fee] rfl rfl rfl rfl ?_; intro g1 w1 hg1 hX f1)
            | ((try refine w_yes _ _ _ rfl rfl rfl ?_); refine w_field Try.stTx _ _ _ rfl rfl rfl (by omega) ?_)
            | ((try refine w_yes _ _ _ rfl rfl rfl ?_); refine w_fload _ rfl rfl rfl f1 rfl (agg_of (by kernel_rfl)) ?_)
            | fail) <;> (try simp only [Act.put, List.setIfInBounds_toArray, List.set_cons_zero, List.set_cons_succ]))
          go_ret
          exact Keep.intro ⟨by rw [hdec.out]; rfl, hX⟩
      · have t3 : decide (0 ≤ t.fee) = false := by simpa using h3
        have hdec := hide_ (show decide t.Right = false from decide_eq_false (fun h => h3 (by have := h.2.2.1; omega)))
        clear h1 h2 h3
        go_enter Try.func63, Try.ntmps63
        go_wp2_with ((first
          | (refine w_box _ [.int .i64 t.id, .int .i64 t.fee] rfl rfl rfl rfl ?_; intro g1 w1 hg1 hX f1)
          | ((try refine w_yes _ _ _ rfl rfl rfl ?_); refine w_field Try.stTx _ _ _ rfl rfl rfl (by omega) ?_)
          | ((try refine w_yes _ _ _ rfl rfl rfl ?_); refine w_fload _ rfl rfl rfl f1 rfl (agg_of (by kernel_rfl)) ?_)
          | fail) <;> (try simp only [Act.put, List.setIfInBounds_toArray, List.set_cons_zero, List.set_cons_succ]))
        go_ret
        exact Keep.intro ⟨by rw [hdec.out]; rfl, hX⟩
    · have t2 : decide (t.id ≤ 1000000) = false := by simpa using h2
      have hdec := hide_ (show decide t.Right = false from decide_eq_false (fun h => h2 (by have := h.2.1; omega)))
      clear h1 h2
      go_enter Try.func63, Try.ntmps63
      go_wp2_with ((first
        | (refine w_box _ [.int .i64 t.id, .int .i64 t.fee] rfl rfl rfl rfl ?_; intro g1 w1 hg1 hX f1)
        | ((try refine w_yes _ _ _ rfl rfl rfl ?_); refine w_field Try.stTx _ _ _ rfl rfl rfl (by omega) ?_)
        | ((try refine w_yes _ _ _ rfl rfl rfl ?_); refine w_fload _ rfl rfl rfl f1 rfl (agg_of (by kernel_rfl)) ?_)
        | fail) <;> (try simp only [Act.put, List.setIfInBounds_toArray, List.set_cons_zero, List.set_cons_succ]))
      go_ret
      exact Keep.intro ⟨by rw [hdec.out]; rfl, hX⟩
  · have t1 : decide (1 ≤ t.id) = false := by simpa using h1
    have hdec := hide_ (show decide t.Right = false from decide_eq_false (fun h => h1 (by have := h.1; omega)))
    clear h1
    go_enter Try.func63, Try.ntmps63
    go_wp2_with ((first
      | (refine w_box _ [.int .i64 t.id, .int .i64 t.fee] rfl rfl rfl rfl ?_; intro g1 w1 hg1 hX f1)
      | ((try refine w_yes _ _ _ rfl rfl rfl ?_); refine w_field Try.stTx _ _ _ rfl rfl rfl (by omega) ?_)
      | ((try refine w_yes _ _ _ rfl rfl rfl ?_); refine w_fload _ rfl rfl rfl f1 rfl (agg_of (by kernel_rfl)) ?_)
      | fail) <;> (try simp only [Act.put, List.setIfInBounds_toArray, List.set_cons_zero, List.set_cons_succ]))
    go_ret
    exact Keep.intro ⟨by rw [hdec.out]; rfl, hX⟩
set_option maxRecDepth 100000 in
set_option maxHeartbeats 800000 in
theorem refRight_any (t : TxD) (w : World) : Calls Try.prog 51 #[.agg #[.int .i64 t.id, .int .i64 t.fee]] w fun e w' => e = .returned (.bool (decide t.Right)) ∧ Ext w w' := by
  refine calls_keep ?_
  by_cases h1 : 0 < t.id
  · have t1 : decide (0 < t.id) = true := by simpa using h1
    by_cases h2 : t.id ≤ 1000000
    · have t2 : decide (t.id ≤ 1000000) = true := by simpa using h2
      by_cases h3 : 0 ≤ t.fee
      · have t3 : decide (0 ≤ t.fee) = true := by simpa using h3
        by_cases h4 : t.fee ≤ 1000
        · have t4 : decide (t.fee ≤ 1000) = true := by simpa using h4
          have hdec := hide_ (show decide t.Right = true from decide_eq_true ⟨by omega, h2, h3, h4⟩)
          clear h1 h2 h3 h4
          go_enter Try.func51, Try.ntmps51
          go_wp2_with ((first
            | (refine w_box _ [.int .i64 t.id, .int .i64 t.fee] rfl rfl rfl rfl ?_; intro g1 w1 hg1 hX f1)
            | ((try refine w_yes _ _ _ rfl rfl rfl ?_); refine w_field Try.stTx _ _ _ rfl rfl rfl (by omega) ?_)
            | ((try refine w_yes _ _ _ rfl rfl rfl ?_); refine w_fload _ rfl rfl rfl f1 rfl (agg_of (by kernel_rfl)) ?_)
            | fail) <;> (try simp only [Act.put, List.setIfInBounds_toArray, List.set_cons_zero, List.set_cons_succ]))
          go_ret
          exact Keep.intro ⟨by rw [hdec.out]; rfl, hX⟩
        · have t4 : decide (t.fee ≤ 1000) = false := by simpa using h4
          have hdec := hide_ (show decide t.Right = false from decide_eq_false (fun h => h4 (by have := h.2.2.2; omega)))
          clear h1 h2 h3 h4
          go_enter Try.func51, Try.ntmps51
          go_wp2_with ((first
            | (refine w_box _ [.int .i64 t.id, .int .i64 t.fee] rfl rfl rfl rfl ?_; intro g1 w1 hg1 hX f1)
            | ((try refine w_yes _ _ _ rfl rfl rfl ?_); refine w_field Try.stTx _ _ _ rfl rfl rfl (by omega) ?_)
            | ((try refine w_yes _ _ _ rfl rfl rfl ?_); refine w_fload _ rfl rfl rfl f1 rfl (agg_of (by kernel_rfl)) ?_)
            | fail) <;> (try simp only [Act.put, List.setIfInBounds_toArray, List.set_cons_zero, List.set_cons_succ]))
          go_ret
          exact Keep.intro ⟨by rw [hdec.out]; rfl, hX⟩
      · have t3 : decide (0 ≤ t.fee) = false := by simpa using h3
        have hdec := hide_ (show decide t.Right = false from decide_eq_false (fun h => h3 (by have := h.2.2.1; omega)))
        clear h1 h2 h3
        go_enter Try.func51, Try.ntmps51
        go_wp2_with ((first
          | (refine w_box _ [.int .i64 t.id, .int .i64 t.fee] rfl rfl rfl rfl ?_; intro g1 w1 hg1 hX f1)
          | ((try refine w_yes _ _ _ rfl rfl rfl ?_); refine w_field Try.stTx _ _ _ rfl rfl rfl (by omega) ?_)
          | ((try refine w_yes _ _ _ rfl rfl rfl ?_); refine w_fload _ rfl rfl rfl f1 rfl (agg_of (by kernel_rfl)) ?_)
          | fail) <;> (try simp only [Act.put, List.setIfInBounds_toArray, List.set_cons_zero, List.set_cons_succ]))
        go_ret
        exact Keep.intro ⟨by rw [hdec.out]; rfl, hX⟩
    · have t2 : decide (t.id ≤ 1000000) = false := by simpa using h2
      have hdec := hide_ (show decide t.Right = false from decide_eq_false (fun h => h2 (by have := h.2.1; omega)))
      clear h1 h2
      go_enter Try.func51, Try.ntmps51
      go_wp2_with ((first
        | (refine w_box _ [.int .i64 t.id, .int .i64 t.fee] rfl rfl rfl rfl ?_; intro g1 w1 hg1 hX f1)
        | ((try refine w_yes _ _ _ rfl rfl rfl ?_); refine w_field Try.stTx _ _ _ rfl rfl rfl (by omega) ?_)
        | ((try refine w_yes _ _ _ rfl rfl rfl ?_); refine w_fload _ rfl rfl rfl f1 rfl (agg_of (by kernel_rfl)) ?_)
        | fail) <;> (try simp only [Act.put, List.setIfInBounds_toArray, List.set_cons_zero, List.set_cons_succ]))
      go_ret
      exact Keep.intro ⟨by rw [hdec.out]; rfl, hX⟩
  · have t1 : decide (0 < t.id) = false := by simpa using h1
    have hdec := hide_ (show decide t.Right = false from decide_eq_false (fun h => h1 (by have := h.1; omega)))
    clear h1
    go_enter Try.func51, Try.ntmps51
    go_wp2_with ((first
      | (refine w_box _ [.int .i64 t.id, .int .i64 t.fee] rfl rfl rfl rfl ?_; intro g1 w1 hg1 hX f1)
      | ((try refine w_yes _ _ _ rfl rfl rfl ?_); refine w_field Try.stTx _ _ _ rfl rfl rfl (by omega) ?_)
      | ((try refine w_yes _ _ _ rfl rfl rfl ?_); refine w_fload _ rfl rfl rfl f1 rfl (agg_of (by kernel_rfl)) ?_)
      | fail) <;> (try simp only [Act.put, List.setIfInBounds_toArray, List.set_cons_zero, List.set_cons_succ]))
    go_ret
    exact Keep.intro ⟨by rw [hdec.out]; rfl, hX⟩
end Go.Proofs.Ytgbhbifdfcfamaa
namespace Go.Proofs.Ytgbhbifdfcfamaa
set_option maxRecDepth 100000
open Go.RowKit

theorem less_fee {a b : TxD} (h : (a.fee == b.fee) = false) : TxD.less a b = decide (b.fee < a.fee) := by
  rw [beq_eq_false_iff_ne] at h
  rw [TxD.less, if_pos h]
theorem less_id {a b : TxD} (h : (a.fee == b.fee) = true) : TxD.less a b = decide (a.id < b.id) := by
  rw [beq_iff_eq] at h
  rw [TxD.less, if_neg (by simpa using h)]
theorem Try.txFields : Try.prog.underlying 43 = some (.struct (Try.prog.fieldsOf 43)) := by kernel_rfl
theorem Try.txHeld : Try.prog.stoodInHeld 43 = false := by kernel_rfl
theorem Try.txGuard : Try.prog.eqGuardType Try.prog.depth 43 = false := by kernel_rfl
theorem Try.txList : (Try.prog.fieldsOf 43).toList.map (fun f => (f.name != "_", f.type, f.offset)) = [(true, 3, 0), (true, 3, 1)] := by kernel_rfl
theorem eqFields_ints {P : Program} {w : World} {ty : TypeId} (hu : P.underlying ty = some (.int .i64)) (d : Nat) (xs ys : List Int) : ∀ (fs : List Field) (k : Nat), fs.map (fun f => (f.name != "_", f.type, f.offset)) = ((List.range fs.length).map fun i => (true, ty, k + i)) → k + fs.length = xs.length → xs.length = ys.length →
    (Op.eqFields (d + 1) (xs.map (Value.int .i64)).toArray (ys.map (Value.int .i64)).toArray fs).run P w = .ok (decide (xs.drop k = ys.drop k)) w
  | [], k, _, h1, h2 => by
    simp only [List.length_nil, Nat.add_zero] at h1
    rw [List.drop_of_length_le (by omega), List.drop_of_length_le (by omega)]
    simp [Op.eqFields]
  | f :: fs, k, hf, h1, h2 => by
    rw [List.length_cons, List.range_succ_eq_map] at hf
    simp only [List.map_cons, List.map_map, Nat.add_zero] at hf
    injection hf with hf0 hfs
    injection hf0 with hn hf0
    injection hf0 with ht ho
    rw [List.length_cons] at h1
    have hk1 : k < xs.length := by omega
    have hk2 : k < ys.length := by omega
    have hne : f.name ≠ "_" := by simpa using hn
    have ih := eqFields_ints (P := P) (w := w) hu d xs ys fs (k + 1) (by rw [hfs]; congr 1; funext i; simp [Function.comp]; omega) (by omega) h2
    have hag : ∀ w : World, (isAgg ty).run P w = .ok false w := fun w => by simp [isAgg, run_underlying hu]
    have p1 : (part f.type (xs.map (Value.int .i64)).toArray f.offset).run P w = .ok (.int .i64 xs[k]) w := by
      rw [ht, ho]; unfold part; simp [hag, hk1]
    have p2 : (part f.type (ys.map (Value.int .i64)).toArray f.offset).run P w = .ok (.int .i64 ys[k]) w := by
      rw [ht, ho]; unfold part; simp [hag, hk2]
    have e1 : (Op.equalIn (d + 1) f.type (.int .i64 xs[k]) (.int .i64 ys[k])).run P w = .ok (xs[k] == ys[k]) w := by
      rw [ht]; exact run_equalIn_int w d ty .i64 .i64 xs[k] ys[k] hu
    simp only [Op.eqFields, hne, ne_eq, not_false_eq_true, if_true, Sem.run_bind, p1, p2, e1, Result.andThen_ok]
    have dx : xs.drop k = xs[k] :: xs.drop (k + 1) := List.drop_eq_getElem_cons hk1
    have dy : ys.drop k = ys[k] :: ys.drop (k + 1) := List.drop_eq_getElem_cons hk2
    rw [dx, dy]
    by_cases he : xs[k] = ys[k]
    · have hb : (xs[k] == ys[k]) = true := by rw [beq_iff_eq]; exact he
      rw [hb]
      simp only [Bool.not_true, Bool.false_eq_true, if_false, ih, he, List.cons.injEq, true_and]
    · have hb : (xs[k] == ys[k]) = false := by rw [beq_eq_false_iff_ne]; exact he
      rw [hb]
      simp only [Bool.not_false, if_true, Sem.run_pure, he, List.cons.injEq, false_and, decide_false]
section
variable {ops : Array Oper} {rest : List Oper} {o : Oper} {a : Act} {Q : Exit → Act → World → Prop} {w : World}
theorem run_txeq (t u : TxD) : (Op.equalIn 10000 43 (.agg #[.int .i64 t.id, .int .i64 t.fee]) (.agg #[.int .i64 u.id, .int .i64 u.fee])).run Try.prog w = .ok (decide (t = u)) w := by
  rw [run_equalIn_struct w 9999 43 _ _ Try.txFields Try.txHeld]
  have h := eqFields_ints (P := Try.prog) (w := w) Try.underlying3 9998 [t.id, t.fee] [u.id, u.fee] (Try.prog.fieldsOf 43).toList 0 (by rw [Try.txList]; kernel_rfl) (by kernel_rfl) rfl
  rw [show (#[Value.int .i64 t.id, .int .i64 t.fee] : Array Value) = ([t.id, t.fee].map (Value.int .i64)).toArray from rfl, show (#[Value.int .i64 u.id, .int .i64 u.fee] : Array Value) = ([u.id, u.fee].map (Value.int .i64)).toArray from rfl, h]
  cases t; cases u; simp
/-- t == u, t != u -/
theorem runs_txeq {ρ : Operand → Value} (x y : Operand) (t u : TxD) (ho : o.op = .binOp .eql 43 x y 43) (hx : ρ x = .agg #[.int .i64 t.id, .int .i64 t.fee]) (hy : ρ y = .agg #[.int .i64 u.id, .int .i64 u.fee]) : Runs Try.prog o ρ w (.bool (decide (t = u))) := by
  unfold Runs execOp
  simp only [ho, hx, hy, Sem.run_bind, run_eqGuard_agg w _ _ _ _ _ _ Try.txGuard, Result.andThen_ok, run_eql_struct, run_txeq, Sem.run_pure]
theorem runs_txne {ρ : Operand → Value} (x y : Operand) (t u : TxD) (ho : o.op = .binOp .neq 43 x y 43) (hx : ρ x = .agg #[.int .i64 t.id, .int .i64 t.fee]) (hy : ρ y = .agg #[.int .i64 u.id, .int .i64 u.fee]) : Runs Try.prog o ρ w (.bool (!decide (t = u))) := by
  unfold Runs execOp
  simp only [ho, hx, hy, Sem.run_bind, run_eqGuard_agg w _ _ _ _ _ _ Try.txGuard, Result.andThen_ok, run_neq_struct, run_txeq, Sem.run_pure]
theorem w_txeq (x y : Operand) (t u : TxD) (hgd : o.guard = none) (ho : o.op = .binOp .eql 43 x y 43) (hx : a.eval x = .agg #[.int .i64 t.id, .int .i64 t.fee]) (hy : a.eval y = .agg #[.int .i64 u.id, .int .i64 u.fee])
    (k : wpList Try.prog ops Q rest (a.put o.dst (.bool (decide (t = u)))) w) : wpList Try.prog ops Q (o :: rest) a w := wpList_runs hgd (runs_txeq x y t u ho hx hy) k
theorem w_txne (x y : Operand) (t u : TxD) (hgd : o.guard = none) (ho : o.op = .binOp .neq 43 x y 43) (hx : a.eval x = .agg #[.int .i64 t.id, .int .i64 t.fee]) (hy : a.eval y = .agg #[.int .i64 u.id, .int .i64 u.fee])
    (k : wpList Try.prog ops Q rest (a.put o.dst (.bool (!decide (t = u)))) w) : wpList Try.prog ops Q (o :: rest) a w := wpList_runs hgd (runs_txne x y t u ho hx hy) k
end
end Go.Proofs.Ytgbhbifdfcfamaa
namespace Go.Proofs.Ytgbhbifdfcfamaa
set_option maxRecDepth 100000
open Go.RowKit

def tB (t : TxD) : List Nat := if t.Right then nuL t.nums else []
def tE (t : TxD) : Nat := if t.Right then 0 else 61
theorem TxD.one (d : TxD) : ∀ u ∈ [Value.int .i64 d.id, .int .i64 d.fee], u.oneCell' = true := by
  intro u hu; simp at hu; rcases hu with rfl | rfl <;> rfl
theorem Rdb.nuOk {l : List Int} (h : Rdb l) (hl : l.length ≤ 64) : NuOk l := ⟨hl, fun x hx => (h x hx).1⟩
theorem Rdb.i64 {l : List Int} (h : Rdb l) : I64s l := fun x hx => by have := h x hx; omega
theorem Nums_yes {w : World} {v : Value} {l : List Int} (h : Rdb l) (hl : l.length ≤ 64) (hv : Ints w v l) : Calls Try.prog 77 #[v] w fun e w' => ∃ v', e = .returned (.tuple #[v', .int .i64 0]) ∧ OwnB w.heap.size w' v' (nuL l) ∧ Ext w w' := by
  refine (Nums_any v l w h.i64 hv).mono ?_
  rintro e w' ⟨v', rfl, h1, h2⟩
  exact ⟨v', by rw [nuErr, if_pos (h.nuOk hl)]; rfl, by rw [nuB, if_pos (h.nuOk hl)] at h1; exact h1, h2⟩
theorem refNums_yes {w : World} {v : Value} {l : List Int} (h : Rdb l) (hl : l.length ≤ 64) (hv : Ints w v l) : Calls Try.prog 36 #[v] w fun e w' => ∃ v', e = .returned (.tuple #[v', .int .i64 0]) ∧ OwnB w.heap.size w' v' (nuL l) ∧ Ext w w' := by
  refine (refNums_any v l w h.i64 hv).mono ?_
  rintro e w' ⟨v', rfl, h1, h2⟩
  exact ⟨v', by rw [nuErr, if_pos (h.nuOk hl)]; rfl, by rw [nuB, if_pos (h.nuOk hl)] at h1; exact h1, h2⟩

set_option maxRecDepth 100000 in
set_option maxHeartbeats 800000 in
theorem TBytes_any (t : TxD) (w : World) : Calls Try.prog 79 #[.agg #[.int .i64 t.id, .int .i64 t.fee]] w fun e w' => ∃ v', e = .returned (.tuple #[v', .int .i64 (tE t : Nat)]) ∧ OwnB w.heap.size w' v' (tB t) ∧ Ext w w' := by
  refine calls_keep ?_
  by_cases h : t.Right
  · have hdec := hide_ (show decide t.Right = true from decide_eq_true h)
    have hr := hide_ h.rdb
    have e1 := hide_ (show tE t = 0 from if_pos h)
    have e2 := hide_ (show tB t = nuL t.nums from if_pos h)
    clear h
    go_enter Try.func79, Try.ntmps79
    go_wp2_with ((first
      | (refine w_box _ [.int .i64 t.id, .int .i64 t.fee] rfl rfl rfl rfl ?_; intro g1 w1 hg1 hX f1)
      | (go_at_call 63; refine (Right_any t _).mono ?_; rintro e w2 ⟨rfl, hx2⟩; rw [hdec.out]; replace f1 := f1.ext hx2; replace hX := hX.trans hx2; clear hx2)
      | (go_at_call 77; refine (Nums_yes hr.out (by simp [TxD.nums]) o2.ints).mono ?_; rintro e w4 ⟨v3, rfl, o3, hx4⟩; replace o3 := o3.mono hX.size; replace hX := hX.trans hx4; clear o2 hx4)
      | (refine w_aload Try.stTx _ rfl rfl rfl f1 rfl ?_)
      | (refine w_new Try.elI (i64s t.nums) rfl rfl rfl (i64s_cells _) rfl (by omega) ?_; intro v2 w3 hx3 o2; replace o2 : OwnI _ w3 v2 t.nums := o2; replace f1 := f1.ext hx3; replace hX := hX.trans hx3; clear hx3)
      | (refine w_field Try.stTx _ _ _ rfl rfl rfl (by omega) ?_)
      | (refine w_fload _ rfl rfl rfl f1 rfl (agg_of (by kernel_rfl)) ?_)
      | fail) <;> (try simp only [Act.put, List.setIfInBounds_toArray, List.set_cons_zero, List.set_cons_succ]))
    go_ret2
    exact Keep.intro ⟨_, by rw [e1.out]; rfl, by rw [e2.out]; exact o3, hX⟩
  · have hdec := hide_ (show decide t.Right = false from decide_eq_false h)
    have e1 := hide_ (show tE t = 61 from if_neg h)
    have e2 := hide_ (show tB t = [] from if_neg h)
    clear h
    go_enter Try.func79, Try.ntmps79
    go_wp2_with ((first
      | (refine w_box _ [.int .i64 t.id, .int .i64 t.fee] rfl rfl rfl rfl ?_; intro g1 w1 hg1 hX f1)
      | (go_at_call 63; refine (Right_any t _).mono ?_; rintro e w2 ⟨rfl, hx2⟩; rw [hdec.out]; replace f1 := f1.ext hx2; replace hX := hX.trans hx2; clear hx2)
      | (refine w_aload Try.stTx _ rfl rfl rfl f1 rfl ?_)
      | fail) <;> (try simp only [Act.put, List.setIfInBounds_toArray, List.set_cons_zero, List.set_cons_succ]))
    go_ret2
    exact Keep.intro ⟨_, by rw [e1.out]; rfl, by rw [e2.out]; exact OwnB.nil _ _, hX⟩

set_option maxRecDepth 100000 in
set_option maxHeartbeats 800000 in
theorem refTBytes_any (t : TxD) (w : World) : Calls Try.prog 37 #[.agg #[.int .i64 t.id, .int .i64 t.fee]] w fun e w' => ∃ v', e = .returned (.tuple #[v', .int .i64 (tE t : Nat)]) ∧ OwnB w.heap.size w' v' (tB t) ∧ Ext w w' := by
  refine calls_keep ?_
  by_cases h : t.Right
  · have hdec := hide_ (show decide t.Right = true from decide_eq_true h)
    have hr := hide_ h.rdb
    have e1 := hide_ (show tE t = 0 from if_pos h)
    have e2 := hide_ (show tB t = nuL t.nums from if_pos h)
    clear h
    go_enter Try.func37, Try.ntmps37
    go_wp2_with ((first
      | (refine w_box _ [.int .i64 t.id, .int .i64 t.fee] rfl rfl rfl rfl ?_; intro g1 w1 hg1 hX f1)
      | (go_at_call 51; refine (refRight_any t _).mono ?_; rintro e w2 ⟨rfl, hx2⟩; rw [hdec.out]; replace f1 := f1.ext hx2; replace hX := hX.trans hx2; clear hx2)
      | (go_at_call 36; refine (refNums_yes hr.out (by simp [TxD.nums]) o2.ints).mono ?_; rintro e w4 ⟨v3, rfl, o3, hx4⟩; replace o3 := o3.mono hX.size; replace hX := hX.trans hx4; clear o2 hx4)
      | (refine w_aload Try.stTx _ rfl rfl rfl f1 rfl ?_)
      | (refine w_new Try.elI (i64s t.nums) rfl rfl rfl (i64s_cells _) rfl (by omega) ?_; intro v2 w3 hx3 o2; replace o2 : OwnI _ w3 v2 t.nums := o2; replace f1 := f1.ext hx3; replace hX := hX.trans hx3; clear hx3)
      | (refine w_field Try.stTx _ _ _ rfl rfl rfl (by omega) ?_)
      | (refine w_fload _ rfl rfl rfl f1 rfl (agg_of (by kernel_rfl)) ?_)
      | fail) <;> (try simp only [Act.put, List.setIfInBounds_toArray, List.set_cons_zero, List.set_cons_succ]))
    go_ret2
    exact Keep.intro ⟨_, by rw [e1.out]; rfl, by rw [e2.out]; exact o3, hX⟩
  · have hdec := hide_ (show decide t.Right = false from decide_eq_false h)
    have e1 := hide_ (show tE t = 61 from if_neg h)
    have e2 := hide_ (show tB t = [] from if_neg h)
    clear h
    go_enter Try.func37, Try.ntmps37
    go_wp2_with ((first
      | (refine w_box _ [.int .i64 t.id, .int .i64 t.fee] rfl rfl rfl rfl ?_; intro g1 w1 hg1 hX f1)
      | (go_at_call 51; refine (refRight_any t _).mono ?_; rintro e w2 ⟨rfl, hx2⟩; rw [hdec.out]; replace f1 := f1.ext hx2; replace hX := hX.trans hx2; clear hx2)
      | (refine w_aload Try.stTx _ rfl rfl rfl f1 rfl ?_)
      | fail) <;> (try simp only [Act.put, List.setIfInBounds_toArray, List.set_cons_zero, List.set_cons_succ]))
    go_ret2
    exact Keep.intro ⟨_, by rw [e1.out]; rfl, by rw [e2.out]; exact OwnB.nil _ _, hX⟩

theorem TBytes_yes {t : TxD} (h : t.Right) (w : World) : Calls Try.prog 79 #[.agg #[.int .i64 t.id, .int .i64 t.fee]] w fun e w' => ∃ v', e = .returned (.tuple #[v', .int .i64 0]) ∧ OwnB w.heap.size w' v' (nuL t.nums) ∧ Ext w w' := by
  refine (TBytes_any t w).mono ?_
  rintro e w' ⟨v', rfl, h1, h2⟩
  exact ⟨v', by rw [tE, if_pos h]; rfl, by rw [tB, if_pos h] at h1; exact h1, h2⟩
theorem TBytes_no {t : TxD} (h : ¬ t.Right) (w : World) : Calls Try.prog 79 #[.agg #[.int .i64 t.id, .int .i64 t.fee]] w fun e w' => ∃ v', e = .returned (.tuple #[v', .int .i64 61]) ∧ Ext w w' := by
  refine (TBytes_any t w).mono ?_
  rintro e w' ⟨v', rfl, _, h2⟩
  exact ⟨v', by rw [tE, if_neg h]; rfl, h2⟩
end Go.Proofs.Ytgbhbifdfcfamaa
namespace Go.Proofs.Ytgbhbifdfcfamaa
set_option maxRecDepth 100000
open Go.RowKit

def twice (l : List TxD) : Bool := decide (¬ (l.map TxD.id).Nodup)
theorem twice_yes {l : List TxD} {i k : Nat} {x y : TxD} (hik : i < k) (hi : l[i]? = some x) (hk : l[k]? = some y) (h : x.id = y.id) : twice l = true := by
  refine decide_eq_true fun hn => ?_
  have hkl := (List.getElem?_eq_some_iff.1 hk).1
  have := List.pairwise_iff_getElem.1 hn i k (by simp; omega) (by simpa using hkl) hik
  rw [List.getElem?_eq_getElem (by omega)] at hi
  rw [List.getElem?_eq_getElem hkl] at hk
  injection hi with hi
  injection hk with hk
  simp only [List.getElem_map] at this
  exact this (by rw [hi, hk]; exact h)
theorem twice_no {l : List TxD} (h : ∀ i k, i < k → k < l.length → ∀ x y, l[i]? = some x → l[k]? = some y → x.id ≠ y.id) : twice l = false := by
  refine decide_eq_false fun hn => hn ?_
  refine List.pairwise_iff_getElem.2 fun i k hi hk hik => ?_
  simp only [List.length_map] at hi hk
  simp only [List.getElem_map]
  exact h i k hik hk _ _ (List.getElem?_eq_getElem hi) (List.getElem?_eq_getElem hk)

set_option maxRecDepth 100000 in
set_option maxHeartbeats 1600000 in
theorem anyTwice_any {v : Value} {l : List TxD} {W : World} (hl : Recs 2 TxR W v l) :
    Calls Try.prog 78 #[v] W fun e w' => e = .returned (.bool (twice l)) ∧ Ext W w' := by
  refine calls_keep ?_
  have hmax : l.length ≤ 9223372036854775807 := by have := hl.len_le; unfold maxLen at this; omega
  go_enter Try.func78, Try.ntmps78
  go_wp2_with ((first
    | (refine w_rlen Try.elTx _ rfl rfl (v := v) rfl hl ?_)
    | fail) <;> (try simp only [Act.put, List.setIfInBounds_toArray, List.set_cons_zero, List.set_cons_succ]))
  go_loopw [9] (fun i wr => ∃ k : Nat, i = .int .i64 k ∧ k ≤ l.length ∧ Hid (∀ i j, i < j → j < k → ∀ x y, l[i]? = some x → l[j]? = some y → x.id ≠ y.id) ∧ Ext W wr) (fun i _ => l.length - (intOf i).toNat)
  case atStart => exact ⟨0, rfl, Nat.zero_le _, fun i j _ h => by omega, Ext.refl _⟩
  case round =>
    obtain ⟨k, rfl, hk, hn, hX⟩ := hrel
    by_cases hlt : k < l.length
    · have t1 : decide (k < l.length) = true := by simpa using hlt
      obtain ⟨d, hd⟩ : ∃ d, l[k] = d := ⟨_, rfl⟩
      have hdk := hide_ (show l[k]? = some d from by rw [List.getElem?_eq_getElem hlt, hd])
      have hlk := hide_ hd
      have htk := hide_ (show (l.take k).length = k from by simp; omega)
      clear hd
      go_wp2_with ((first
        | (refine w_ridx0 Try.elTx _ _ k TxR.stays rfl rfl (v := v) rfl rfl hl hX hlt ?_; rintro p row hrow hrl ⟨rfl, hraw⟩; rw [hlk.out] at hrow)
        | (refine w_pload Try.stTx _ rfl rfl rfl (hrow.ext hX) rfl ?_)
        | (refine w_alloc Try.stTx rfl rfl ?_; intro g4 w4 hg4 hx4 f4)
        | (refine w_astore Try.stTx (us := [.int .i64 d.id, .int .i64 d.fee]) _ _ rfl rfl rfl rfl rfl f4 rfl rfl d.one ?_; intro w5 hm5 f5; replace f4 := f5; have hx := hm5.after hx4 (fun i e => e ▸ hg4); replace hX := hX.trans hx; clear f5 hm5 hx4 hg4 hx hrow hrl hraw)
        | (refine w_nto0 Try.elTx _ _ k rfl rfl (v := v) rfl rfl hl (by omega) ?_; intro vs hs)
        | (refine w_rlen Try.elTx _ rfl rfl (v := vs) rfl (hs.ext TxR.stays hX) ?_; rw [htk.out])
        | fail) <;> (try simp only [Act.put, List.setIfInBounds_toArray, List.set_cons_zero, List.set_cons_succ]))
      go_loopw [18] (fun i wr => ∃ j : Nat, i = .int .i64 j ∧ j ≤ k ∧ Hid (∀ i, i < j → ∀ x, l[i]? = some x → x.id ≠ d.id) ∧ Fs wr g4 [.int .i64 d.id, .int .i64 d.fee] ∧ Ext W wr) (fun i _ => k - (intOf i).toNat)
      case atStart => exact ⟨0, rfl, Nat.zero_le _, fun i h => by omega, f4, hX⟩
      case round =>
        clear f4 hX
        obtain ⟨j, rfl, hj, hm, f4, hX⟩ := hrel
        by_cases hjlt : j < k
        · have t2 : decide (j < k) = true := by simpa using hjlt
          obtain ⟨d2, hd2⟩ : ∃ d2, (l.take k)[j]'(by simp; omega) = d2 := ⟨_, rfl⟩
          have hdj := hide_ (show l[j]? = some d2 from by rw [← hd2, List.getElem_take, List.getElem?_eq_getElem])
          have hlj := hide_ hd2
          clear hd2
          cases hc : (d.id == d2.id)
          · have hm2 := hide_ (show ∀ i, i < j + 1 → ∀ x, l[i]? = some x → x.id ≠ d.id from fun i hi x hx => by
              by_cases hij : i < j
              · exact hm.out i hij x hx
              · obtain rfl : i = j := by omega
                rw [hdj.out] at hx; cases hx
                rw [beq_eq_false_iff_ne] at hc
                exact fun e => hc e.symm)
            clear hm
            go_wp2_with ((first
              | (refine w_ridx0 Try.elTx _ _ j TxR.stays rfl rfl (v := vs) rfl rfl hs hX (by rw [htk.out]; exact hjlt) ?_; rintro p row hrow hrl ⟨rfl, hraw⟩; rw [hlj.out] at hrow)
              | (refine w_pload Try.stTx _ rfl rfl rfl (hrow.ext hX) rfl ?_)
              | (refine w_alloc Try.stTx rfl rfl ?_; intro g6 w6 hg6 hx6 f6; have n46 : ¬ g4 = g6 := (by have := f4.lt; omega); replace f4 := f4.ext hx6)
              | (refine w_astore Try.stTx (us := [.int .i64 d2.id, .int .i64 d2.fee]) _ _ rfl rfl rfl rfl rfl f6 rfl rfl d2.one ?_; intro w7 hm7 f7; replace f6 := f7; have hx := hm7.after hx6 (fun i e => e ▸ hg6); replace f4 := f4.mod hm7 n46; replace hX := hX.trans hx; clear f7 hm7 hx6 hg6 hx hrow hrl hraw)
              | (refine w_field Try.stTx _ _ _ rfl rfl rfl (by omega) ?_)
              | (refine w_fload _ rfl rfl rfl f4 rfl (agg_of (by kernel_rfl)) ?_)
              | (refine w_fload _ rfl rfl rfl f6 rfl (agg_of (by kernel_rfl)) ?_)
              | fail) <;> (try simp only [Act.put, List.setIfInBounds_toArray, List.set_cons_zero, List.set_cons_succ]))
            go_roundw
            case rel => exact ⟨j + 1, by go_num, by omega, hm2, f4, hX⟩
            case measure => simp [intOf]; omega
          · have hy := hide_ (show twice l = true from twice_yes hjlt hdj.out hdk.out (by rw [beq_iff_eq] at hc; exact hc.symm))
            clear hm
            go_wp2_with ((first
              | (refine w_ridx0 Try.elTx _ _ j TxR.stays rfl rfl (v := vs) rfl rfl hs hX (by rw [htk.out]; exact hjlt) ?_; rintro p row hrow hrl ⟨rfl, hraw⟩; rw [hlj.out] at hrow)
              | (refine w_pload Try.stTx _ rfl rfl rfl (hrow.ext hX) rfl ?_)
              | (refine w_alloc Try.stTx rfl rfl ?_; intro g6 w6 hg6 hx6 f6; have n46 : ¬ g4 = g6 := (by have := f4.lt; omega); replace f4 := f4.ext hx6)
              | (refine w_astore Try.stTx (us := [.int .i64 d2.id, .int .i64 d2.fee]) _ _ rfl rfl rfl rfl rfl f6 rfl rfl d2.one ?_; intro w7 hm7 f7; replace f6 := f7; have hx := hm7.after hx6 (fun i e => e ▸ hg6); replace f4 := f4.mod hm7 n46; replace hX := hX.trans hx; clear f7 hm7 hx6 hg6 hx hrow hrl hraw)
              | (refine w_field Try.stTx _ _ _ rfl rfl rfl (by omega) ?_)
              | (refine w_fload _ rfl rfl rfl f4 rfl (agg_of (by kernel_rfl)) ?_)
              | (refine w_fload _ rfl rfl rfl f6 rfl (agg_of (by kernel_rfl)) ?_)
              | fail) <;> (try simp only [Act.put, List.setIfInBounds_toArray, List.set_cons_zero, List.set_cons_succ]))
            go_ret
            exact Keep.intro ⟨by rw [hy.out]; rfl, hX⟩
        · have t2 : decide (j < k) = false := by simpa using hjlt
          have hn2 := hide_ (show ∀ i j, i < j → j < k + 1 → ∀ x y, l[i]? = some x → l[j]? = some y → x.id ≠ y.id from fun i j' hij hj' x y hx hy => by
            by_cases hjk : j' < k
            · exact hn.out i j' hij hjk x y hx hy
            · obtain rfl : j' = k := by omega
              rw [hdk.out] at hy; cases hy
              exact hm.out i (by omega) x hx)
          clear hm hn hjlt
          go_wp2
          go_roundw
          case rel => exact ⟨k + 1, by go_num, by omega, hn2, hX⟩
          case measure => simp [intOf]; omega
    · have t1 : decide (k < l.length) = false := by simpa using hlt
      have hno := hide_ (show twice l = false from twice_no fun i j hij hj => hn.out i j hij (by omega))
      clear hn
      go_wp2
      go_ret
      exact Keep.intro ⟨by rw [hno.out]; rfl, hX⟩
end Go.Proofs.Ytgbhbifdfcfamaa
