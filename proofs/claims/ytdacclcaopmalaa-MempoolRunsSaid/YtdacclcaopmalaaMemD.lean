/- A pool of transactions: some are gone. -/
import Derived.Test.YtdacclcaopmalaaMemB
import Derived.Test.YtdacclcaopmalaaIns
namespace Go.Proofs.Ytdacclcaopmalaa
set_option maxRecDepth 100000
open Go.RowKit

section
variable {P : Program} {ops : Array Oper} {rest : List Oper} {o : Oper} {a : Act} {Q : Exit → Act → World → Prop} {w : World} {t e : TypeId} {n bytes : Nat} {z : Value}
/-- &s[i] of a row that begins its block. -/
theorem w_bidx (E : ElS P t e n) (x y : Operand) {g len cap i : Nat} (hgd : o.guard = none) (ho : o.op = .indexAddr t x y) (hv : a.eval x = .slice (some ⟨g, 0, none⟩) len cap) (hy : a.eval y = .int .i64 i) (hi : i < len)
    (k : wpList P ops Q rest (a.put o.dst (.pointer (some ⟨g, i * n, none⟩))) w) : wpList P ops Q (o :: rest) a w := by
  obtain ⟨i0, hi0, hsz⟩ := E.info
  have hu := E.hu
  have key : ∀ ρ : Operand → Value, ρ x = .slice (some ⟨g, 0, none⟩) len cap → ρ y = .int .i64 i → Runs P o ρ w (.pointer (some ⟨g, i * n, none⟩)) := fun ρ hv hy => by
    unfold Runs execOp
    simp [ho, hv, hy, Instr.indexAt, run_underlying hu, sizeOf, typeInfo, hi0, hsz, go_sem, hi]
  exact wpList_runs hgd (key _ hv hy) k
/-- A struct stored into a row. -/
theorem w_bstore {zs : List Value} (E : St P t n zs) (x y : Operand) {g q : Nat} {cs us : List Value} {e' : TypeId} (hgd : o.guard = none) (ho : o.op = .store t x y) (hd : o.dst = none) (hx : a.eval x = .pointer (some ⟨g, q, none⟩)) (hy : a.eval y = .agg us.toArray) (hB : Blk w g e' cs) (hl : us.length = n) (hsz : q + n ≤ cs.length) (h1 : ∀ u ∈ us, u.oneCell' = true)
    (k : ∀ w', Mod (fun k => k = g) w w' → Blk w' g e' (cs.take q ++ us ++ cs.drop (q + us.length)) → wpList P ops Q rest a w') : wpList P ops Q (o :: rest) a w := by
  obtain ⟨i0, hi, _, hs⟩ := E.info
  refine wpList_plain hgd fun K hK => ?_
  have hr := run_storeCells_cells (P := P) g q us 0 w (fun j hj => by
    rw [Nat.add_zero, hB.cell (List.getElem?_eq_getElem (show q + j < cs.length from by omega))]; rfl) (fun j _ => hB.frozen _) h1
  have hk := hK _ _ (k _ (mod_setCells g us q w) (hB.sets us q w cs (by omega)))
  unfold Oper.wp execOp
  simp only [ho, hx, hy, Sem.run_bind, Instr.storeAt, storeVar, Instr.sureAddr, Sem.run_pure, Result.andThen_ok, sizeOf, typeInfo]
  simp [hi, hs, hl, Value.cells]
  simp at hr
  simp [hr, Oper.upon, hd, Act.put]
  exact hk
theorem zero_ones (h1 : ∀ u ∈ z.cells, u.oneCell' = true) (hz : 0 < z.cells.size) (k : Nat) : ∀ u ∈ (Builtin.zeroCells z.cells k).toList, u.oneCell' = true := by
  intro u hu
  simp [Builtin.zeroCells] at hu
  obtain ⟨i, _, rfl⟩ := hu
  have hlt : i % z.cells.size < z.cells.size := Nat.mod_lt _ hz
  rw [getElem!_pos z.cells _ hlt]
  exact h1 _ (Array.getElem_mem hlt)
/-- clear(s[i:]), where there is something. -/
theorem w_clearN (E : ElN P t e n bytes z) (x : Operand) {g off m c : Nat} {cs : List Value} {e' : TypeId} (hgd : o.guard = none) (ho : o.op = .call { callee := .builtin .clear, args := #[x], argTypes := #[t] }) (hd : o.dst = none) (hv : a.eval x = .slice (some ⟨g, off, none⟩) m c) (hm : 0 < m)
    (h1 : ∀ u ∈ z.cells, u.oneCell' = true) (hB : Blk w g e' cs) (hsz : off + m * n ≤ cs.length)
    (k : ∀ w' cs', Mod (fun k => k = g) w w' → Blk w' g e' cs' → cs'.length = cs.length → cs'.take off = cs.take off → wpList P ops Q rest a w') : wpList P ops Q (o :: rest) a w := by
  obtain ⟨i0, hi0, hz0, hsz0, _⟩ := E.info
  have hzn := E.zs
  have hpos := E.pos
  obtain ⟨m, rfl⟩ : ∃ m', m = m' + 1 := ⟨m - 1, by omega⟩
  have hlen := zero_cells E (m + 1)
  have hst := run_storeCells_cells (P := P) g off (Builtin.zeroCells z.cells (m + 1)).toList 0 w (fun j hj => by
    rw [Nat.add_zero, hB.cell (List.getElem?_eq_getElem (show off + j < cs.length from by omega))]; rfl) (fun j _ => hB.frozen _) (zero_ones h1 (by omega) (m + 1))
  rw [Nat.add_zero] at hst
  refine wpList_plain hgd fun K hK => ?_
  have hk := hK _ _ (k _ _ (mod_setCells g _ off w) (hB.sets (Builtin.zeroCells z.cells (m + 1)).toList off w cs (by omega)) (by rw [List.length_append, List.length_append, List.length_take, List.length_drop]; omega) (by rw [List.append_assoc]; exact List.take_left' (by rw [List.length_take]; omega)))
  have hu := E.hu
  unfold Oper.wp execOp
  simp [ho, hd, resolve, invoke, builtin, hv, Builtin.clear_, run_underlying hu, zeroValue, typeInfo, hi0, hz0, hst, Result.andThen, Act.put, Oper.upon]
  exact hk
end
theorem drop_take_none {l : List TxD} {ids : List Int} (h : ∀ x ∈ l, decide (x.id ∈ ids) = false) : Mem.drop l ids = l := by
  unfold Mem.drop
  rw [List.filter_eq_self]
  intro x hx
  rw [h x hx]; rfl
theorem drop_snoc {l : List TxD} {ids : List Int} {d : TxD} {k : Nat} (hd : l[k]? = some d) : Mem.drop (l.take (k + 1)) ids = if decide (d.id ∈ ids) = true then Mem.drop (l.take k) ids else Mem.drop (l.take k) ids ++ [d] := by
  rw [List.take_add_one, hd]
  unfold Mem.drop
  rw [List.filter_append]
  cases c : decide (d.id ∈ ids) <;> simp [c]
theorem txrow_len (l : List TxD) : ∀ r ∈ l.map TxD.row, r.length = 2 := fun r hr => by obtain ⟨y, _, rfl⟩ := List.mem_map.1 hr; rfl

set_option maxRecDepth 100000 in
set_option maxHeartbeats 6400000 in
theorem DeleteFunc_drop {F : Nat → Prop} {w : World} {v : Value} {l : List TxD} (h0 : RowN F w 30 2 v (l.map TxD.row)) (hraw : ∀ t ∈ l, t.Raw) (hn : l.length ≤ 16) {gb : Nat} {vi : Value} {ids : List Int} (f00 : Fs w gb [vi]) (hi00 : Ints w vi ids) (hgb : ¬ F gb) (hvi : ∀ k, vi.ownBlock = some k → ¬ F k) :
    Calls Try.prog 45 #[v, .func (.func 46) #[] #[.pointer (some ⟨gb, 0, none⟩)]] w fun e w' => ∃ v', e = .returned v' ∧ RowN F w' 30 2 v' ((Mem.drop l ids).map TxD.row) ∧ Mod F w w' := by
  refine calls_keep ?_
  have hrec := hide_ (h0.recs (R := TxR) (by simp) (rows_recs rfl hraw))
  have f0 := hide_ f00
  have hi0 := hide_ hi00
  by_cases hall : ∀ x ∈ l, decide (x.id ∈ ids) = false
  · have hd := hide_ (drop_take_none hall)
    have hall' := hide_ hall
    have hrow := hide_ h0
    clear h0 hraw f00 hi00 hgb hvi hall
    go_enter Try.func45, Try.ntmps45
    go_wp2_with (first
      | (go_at_call 72; refine (IndexFunc_drop hrec.out f0.out hi0.out).mono ?_; rintro e w4 ⟨r, rfl, hF, hX⟩; obtain rfl : r = -1 := (hF.elim (fun h => h.1) (fun ⟨i, x, _, hx, hq, _⟩ => by have h1 := hall'.out x (List.mem_of_getElem? hx); have h2 : decide (x.id ∈ ids) = true := hq; rw [h1] at h2; cases h2)); clear hF)
      | fail)
    go_ret
    exact Keep.intro ⟨v, rfl, by rw [hd.out]; exact hrow.out.ext hX, hX.mod F⟩
  have hlen : 0 < l.length := by
    cases l with
    | nil => exact absurd (fun x hx => by simp at hx) hall
    | cons x l => simp
  rcases h0.split with ⟨_, hh⟩ | ⟨g, cap, cs0, rfl, hFg, hB0, hcl0, hnc, hcm, ht0⟩
  · have := congrArg List.length hh
    rw [List.length_map] at this
    have h2 : ([] : List (List Value)).length = 0 := rfl
    omega
  obtain ⟨n, hnn⟩ : ∃ n, l.length = n := ⟨_, rfl⟩
  rw [List.length_map, hnn] at hnc ht0 hrec ⊢
  rw [hnn] at hn hlen
  have hgb' := hide_ (show ¬ gb = g from fun e => hgb (e ▸ hFg))
  have hvi' := hide_ (fun k (hk : vi.ownBlock = some k) (e : k = g) => hvi k hk (e ▸ hFg))
  have hB := hide_ hB0
  have hall' := hide_ hall
  have hnn' := hide_ hnn
  have hat := hide_ (fun (wr : World) (cs : List Value) (j : Nat) (d : TxD) (hBr : Blk wr g 30 cs) (hdr : cs.drop (j * 2) = cs0.drop (j * 2)) (hd : l[j]? = some d) => (by
    have hj := (List.getElem?_eq_some_iff.1 hd).1
    intro q u hq
    rw [addr_add_off]
    refine hBr.cell ?_
    have hq2 : q < 2 := (List.getElem?_eq_some_iff.1 hq).1
    have e1 : cs[j * 2 + q]? = cs0[j * 2 + q]? := by rw [← List.getElem?_drop, ← List.getElem?_drop, hdr]
    have e2 : cs0[j * 2 + q]? = (l.map TxD.row).flatten[j * 2 + q]? := by rw [← ht0, List.getElem?_take_of_lt (by omega)]
    rw [e1, e2]
    exact flat_get (txrow_len l) j q [.int .i64 d.id, .int .i64 d.fee] u (by rw [List.getElem?_map, hd]; rfl) hq : RowAt wr ⟨g, j * 2, none⟩ [.int .i64 d.id, .int .i64 d.fee]))
  have hcap := hide_ hnc
  clear h0 hraw f00 hi00 hgb hvi hall hB0 hnc
  go_enter Try.func45, Try.ntmps45
  go_wp2_with (first
    | (go_at_call 72; refine (IndexFunc_drop hrec.out f0.out hi0.out).mono ?_; rintro e w4 ⟨r, rfl, hF, hX⟩; obtain ⟨i0, x0, rfl, hx0, hq0, hbef⟩ := (hF.resolve_left (fun h => hall'.out h.2)); have hi0n : i0 < n := (by have := (List.getElem?_eq_some_iff.1 hx0).1; have := hnn'.out; omega); have t1 : ((i0 : Int) == -1) = false := (by rw [beq_eq_false_iff_ne]; omega); replace hx0 := hide_ hx0; replace hq0 := hide_ hq0; replace hbef := hide_ hbef; clear hF)
    | fail)
  have hst : Mem.drop (l.take (i0 + 1)) ids = l.take i0 := by
    rw [drop_snoc hx0.out, if_pos hq0.out]
    exact drop_take_none hbef.out
  go_loopw [5, 6] (fun u5 u6 wr => ∃ (j : Nat) (kl : List TxD) (cs : List Value), u5 = .int .i64 (kl.length : Nat) ∧ u6 = .int .i64 j ∧ j ≤ n ∧ kl.length < j ∧ Mem.drop (l.take j) ids = kl ∧ Blk wr g 30 cs ∧ cs.length = cap * 2 ∧ cs.take (kl.length * 2) = (kl.map TxD.row).flatten ∧ cs.drop (j * 2) = cs0.drop (j * 2) ∧ Mod (fun k => k = g) w wr) (fun _ u6 _ => n - (RowKit.intOf u6).toNat)
  case atStart =>
    have hil : (l.take i0).length = i0 := by rw [List.length_take]; have := hnn'.out; omega
    refine ⟨i0 + 1, l.take i0, cs0, by rw [hil], by go_num, by omega, by omega, hst, hB.out.ext hX, hcl0, ?_, rfl, hX.mod _⟩
    rw [hil, List.map_take, ← flat_take (txrow_len l), ← ht0, List.take_take, Nat.min_eq_left (by omega)]
  case round =>
    clear hX hst
    obtain ⟨j, kl, cs, rfl, rfl, hj, hkj, hkl, hBr, hcl, htk, hdr, hM⟩ := hrel
    by_cases hge : n ≤ j
    · obtain rfl : j = n := by omega
      have t2 : decide (j < j) = false := by simp
      have hkf : Mem.drop l ids = kl := by rw [← hkl, List.take_of_length_le (by have := hnn'.out; omega)]
      have hBr' := hide_ hBr
      have c1 := hide_ (show kl.length ≤ j from by omega)
      have c2 := hide_ (show kl.length < cap from by have := hcap.out; omega)
      have c3 := hide_ (show 0 < j - kl.length from by omega)
      have c4 := hide_ (show kl.length * 2 + (j - kl.length) * 2 ≤ cs.length from by have := hcap.out; omega)
      have c5 := hide_ (show kl.length ≤ cap from by have := hcap.out; omega)
      have hkf' := hide_ hkf
      have htk' := hide_ htk
      have hcl' := hide_ hcl
      clear hge hBr hkl hkf hdr htk hcl
      go_wp2_with ((first
        | ((with_reducible refine at_cut ?_); refine w_sfrom Try.elTx _ _ (j := kl.length) rfl rfl rfl rfl c1.out c2.out ?_)
        | ((with_reducible refine at_cut ?_); refine w_sto Try.elTx _ _ (j := kl.length) rfl rfl rfl rfl c5.out ?_)
        | ((with_reducible refine at_bi ?_); refine w_clearN Try.elTxN _ rfl rfl rfl rfl c3.out (by intro u hu; simp [Value.cells] at hu; rcases hu with rfl | rfl <;> rfl) hBr'.out c4.out ?_; intro w5 cs5 hm5 hB5 hcl5 htk5; replace hM := hM.trans hm5 (fun _ _ h => h); clear hm5)
        | fail) <;> (try simp only [Act.put, List.setIfInBounds_toArray, List.set_cons_zero, List.set_cons_succ]))
      go_ret
      refine Keep.intro ⟨_, rfl, ?_, hM.mono fun k _ e => e ▸ hFg⟩
      rw [hkf'.out]
      have hr2 := RowN.ofBlk (F := F) (rows := kl.map TxD.row) (n := 2) hB5 (hcl5.trans hcl'.out) (by rw [List.length_map]; exact c5.out) hcm (txrow_len kl) (by rw [List.length_map, htk5]; exact htk'.out) hFg
      rw [List.length_map] at hr2
      exact hr2
    have hlt : j < n := by omega
    have t2 : decide (j < n) = true := by simpa using hlt
    obtain ⟨d, hd0⟩ : ∃ d, l[j]? = some d := ⟨_, List.getElem?_eq_getElem (by have := hnn'.out; omega)⟩
    have hrow := hide_ (hat.out _ _ _ _ hBr hdr hd0)
    have hsn := drop_snoc (ids := ids) hd0
    have f0w := hide_ (f0.out.mod hM hgb'.out)
    have hi0w := hide_ (Sl.mod hi0.out hM hvi'.out)
    have hglt := hide_ hBr.lt
    obtain ⟨q, hq⟩ : ∃ q, decide (d.id ∈ ids) = q := ⟨_, rfl⟩
    rw [hq, hkl] at hsn
    have hq' := hide_ hq
    have hlt' := hide_ hlt
    have hBr' := hide_ hBr
    have hX := Ext.refl wr
    cases q
    · simp only [Bool.false_eq_true, if_false] at hsn
      have e1 : (cs.take (kl.length * 2)).length = kl.length * 2 := by rw [List.length_take]; have := hcap.out; omega
      have hsn' := hide_ hsn
      have c1 := hide_ (show kl.length < n from by omega)
      have c2 := hide_ (show kl.length * 2 + 2 ≤ cs.length from by have := hcap.out; omega)
      have hfin := hide_ (show (cs.take (kl.length * 2) ++ [Value.int .i64 d.id, .int .i64 d.fee] ++ cs.drop (kl.length * 2 + 2)).length = cap * 2 ∧ (cs.take (kl.length * 2) ++ [Value.int .i64 d.id, .int .i64 d.fee] ++ cs.drop (kl.length * 2 + 2)).take ((kl ++ [d]).length * 2) = ((kl ++ [d]).map TxD.row).flatten ∧
          (cs.take (kl.length * 2) ++ [Value.int .i64 d.id, .int .i64 d.fee] ++ cs.drop (kl.length * 2 + 2)).drop ((j + 1) * 2) = cs0.drop ((j + 1) * 2) from by
        refine ⟨by simp; have := hcap.out; omega, ?_, ?_⟩
        · rw [List.take_left' (by simp; have := hcap.out; omega), List.map_append, List.flatten_append, ← htk]; simp [TxD.row]
        · have e2 : (cs.take (kl.length * 2) ++ [Value.int .i64 d.id, .int .i64 d.fee]).length = kl.length * 2 + 2 := by rw [List.length_append, e1]; rfl
          have e3 : (j + 1) * 2 = (kl.length * 2 + 2) + ((j + 1) * 2 - (kl.length * 2 + 2)) := by omega
          have e4 : cs.drop ((j + 1) * 2) = cs0.drop ((j + 1) * 2) := by
            rw [show (j + 1) * 2 = j * 2 + 2 from by omega, ← List.drop_drop, ← List.drop_drop, hdr]
          rw [← e4, e3, ← e2, List.drop_length_add_append, List.drop_drop, e2])
      have hklen : (kl ++ [d]).length = kl.length + 1 := by simp
      have hkj' := hide_ hkj
      clear hge hlt hd0 hsn hq hBr hkl hdr htk hcl e1
      go_wp2_with ((first
        | (go_at_call 46; refine (drop1_any (d := d) (f0w.out.ext hX) (hi0w.out.ext hX)).mono ?_; rintro e w4 ⟨rfl, hx⟩; rw [hq'.out]; replace f7 := f7.ext hx; replace hX := hX.trans hx; clear hx)
        | ((with_reducible refine at_idx ?_); refine w_bidx Try.elTx _ _ (i := j) rfl rfl rfl rfl hlt'.out ?_)
        | ((with_reducible refine at_idx ?_); refine w_bidx Try.elTx _ _ (i := kl.length) rfl rfl rfl rfl c1.out ?_)
        | ((with_reducible refine at_load ?_); refine w_pload Try.stTx _ rfl rfl rfl hrow.out rfl ?_)
        | ((with_reducible refine at_alloc ?_); refine w_alloc Try.stTx rfl rfl ?_; intro g7 w2 hg7 hx2 f7)
        | ((with_reducible refine at_store ?_); refine w_astore Try.stTx _ _ (us := [.int .i64 d.id, .int .i64 d.fee]) rfl rfl rfl rfl rfl f7 rfl rfl (by intro u hu; simp at hu; rcases hu with rfl | rfl <;> rfl) ?_; intro w3 hm3 f9; replace hx2 := hm3.after hx2 (fun i hi => by subst hi; exact hg7); replace f7 := f9; replace hX := hX.trans hx2; clear hm3 f9 hx2 hg7)
        | ((with_reducible refine at_load ?_); refine w_aload Try.stTx (.tmp 7) rfl rfl rfl f7 rfl ?_)
        | ((with_reducible refine at_store ?_); refine w_bstore Try.stTx _ _ (us := [.int .i64 d.id, .int .i64 d.fee]) rfl rfl rfl rfl rfl (hBr'.out.ext hX) rfl c2.out (by intro u hu; simp at hu; rcases hu with rfl | rfl <;> rfl) ?_; intro w5 hm5 hB5; replace hM := (hM.trans (hX.mod _) (fun _ _ h => h)).trans hm5 (fun _ _ h => h); clear hm5 hX f7)
        | fail) <;> (try simp only [Act.put, List.setIfInBounds_toArray, List.set_cons_zero, List.set_cons_succ]))
      go_roundw
      case rel => exact ⟨j + 1, kl ++ [d], _, by rw [hklen]; go_num, by go_num, hlt'.out, by have := hkj'.out; omega, hsn'.out, hB5, hfin.out.1, hfin.out.2.1, hfin.out.2.2, hM⟩
      case measure => have := hlt'.out; simp [RowKit.intOf]; omega
    · simp only [if_true] at hsn
      have hsn' := hide_ hsn
      have hdr' := hide_ (show cs.drop ((j + 1) * 2) = cs0.drop ((j + 1) * 2) from by
        rw [show (j + 1) * 2 = j * 2 + 2 from by omega, ← List.drop_drop, ← List.drop_drop, hdr])
      have htk' := hide_ htk
      have hcl' := hide_ hcl
      clear hge hlt hd0 hsn hq hBr hkl hdr htk hcl
      go_wp2_with ((first
        | (go_at_call 46; refine (drop1_any (d := d) (f0w.out.ext hX) (hi0w.out.ext hX)).mono ?_; rintro e w4 ⟨rfl, hx⟩; rw [hq'.out]; replace hX := hX.trans hx; clear hx f7)
        | ((with_reducible refine at_idx ?_); refine w_bidx Try.elTx _ _ (i := j) rfl rfl rfl rfl hlt'.out ?_)
        | ((with_reducible refine at_load ?_); refine w_pload Try.stTx _ rfl rfl rfl hrow.out rfl ?_)
        | ((with_reducible refine at_alloc ?_); refine w_alloc Try.stTx rfl rfl ?_; intro g7 w2 hg7 hx2 f7)
        | ((with_reducible refine at_store ?_); refine w_astore Try.stTx _ _ (us := [.int .i64 d.id, .int .i64 d.fee]) rfl rfl rfl rfl rfl f7 rfl rfl (by intro u hu; simp at hu; rcases hu with rfl | rfl <;> rfl) ?_; intro w3 hm3 f9; replace hx2 := hm3.after hx2 (fun i hi => by subst hi; exact hg7); replace f7 := f9; replace hX := hX.trans hx2; clear hm3 f9 hx2 hg7)
        | ((with_reducible refine at_load ?_); refine w_aload Try.stTx (.tmp 7) rfl rfl rfl f7 rfl ?_)
        | fail) <;> (try simp only [Act.put, List.setIfInBounds_toArray, List.set_cons_zero, List.set_cons_succ]))
      go_roundw
      case rel => exact ⟨j + 1, kl, cs, rfl, by go_num, hlt'.out, by omega, hsn'.out, hBr'.out.ext hX, hcl'.out, htk'.out, hdr'.out, hM.trans (hX.mod _) fun _ _ h => h⟩
      case measure => have := hlt'.out; simp [RowKit.intOf]; omega

set_option maxRecDepth 100000 in
set_option maxHeartbeats 1600000 in
theorem PDrop_any {F : Nat → Prop} {w : World} {p : Nat} {l : List TxD} {vi : Value} {ids : List Int} (h0 : Pl F w p l) (hn : l.length ≤ 16) (hi00 : Ints w vi ids) (hvi : ∀ k, vi.ownBlock = some k → ¬ F k) :
    Calls Try.prog 14 #[.pointer (some ⟨p, 0, none⟩), vi] w fun e w' => e = .returned (.tuple #[]) ∧ Pl F w' p (Mem.drop l ids) ∧ Mod F w w' := by
  refine calls_keep ?_
  obtain ⟨v, f1, hrow, hraw, hFp, hFl⟩ := h0
  have hi0 := hide_ hi00
  have hrow' := hide_ hrow
  have hraw' := hide_ hraw
  have hn' := hide_ hn
  have hvi' := hide_ (fun k (hk : vi.ownBlock = some k) (h : F k ∧ k ≠ p) => hvi k hk h.1)
  have hvc : vi.cells.toList = [vi] := by obtain ⟨A, c, hvv, _⟩ := hi00; rw [hvv]; rfl
  clear hi00 hrow hraw hn hvi
  go_enter Try.func14, Try.ntmps14
  go_wp2_with ((first
    | (go_at_call 45; refine (DeleteFunc_drop (hrow'.out.ext hX) hraw'.out hn'.out f3 (hi0.out.ext hX) hgF.out hvi'.out).mono ?_; rintro e w4 ⟨v4, rfl, hr4, hm4⟩; have hp4 := hide_ (show ¬ (F p ∧ p ≠ p) from fun h => h.2 rfl); replace f1 := f1.mod hm4 hp4.out; obtain ⟨A4, c4, hv4, _⟩ := hr4.slS; have ho4 : v4.oneCell' = true := (by rw [hv4]; rfl); have hc4 : v4.cells = #[v4] := (by rw [hv4]; rfl); clear hv4)
    | ((with_reducible refine at_box ?_); refine w_box _ [vi] rfl rfl rfl hvc ?_; intro g3 w1 hg3 hX f3; have hgF := hide_ (show ¬ (F g3 ∧ g3 ≠ p) from fun h => by have := hFl g3 h.1; omega); replace f1 := f1.ext hX)
    | ((with_reducible refine at_field ?_); refine w_field Try.stPool _ _ _ rfl rfl rfl (by omega) ?_)
    | ((with_reducible refine at_load ?_); refine w_fload _ rfl rfl rfl f1 rfl (agg_of (by kernel_rfl)) ?_)
    | ((with_reducible refine at_store ?_); refine w_fstore (u := v4) _ _ rfl rfl rfl rfl rfl f1 (by simp) hc4 ho4 (by kernel_rfl) ?_; intro w5 hm5 f5)
    | fail) <;> (try simp only [Act.put, List.setIfInBounds_toArray, List.set_cons_zero, List.set_cons_succ]))
  go_end0
  have hM := ((hX.mod F).trans (hm4.mono (G := F) fun _ _ h => h.1) fun _ _ h => h).trans hm5 fun _ _ e => e ▸ hFp
  exact Keep.intro ⟨rfl, ⟨v4, f5, hr4.mod hm5 (fun k h e => h.2 e), fun t ht => hraw'.out t ((List.mem_filter.1 ht).1), hFp, fun k hk => Nat.lt_of_lt_of_le (hFl k hk) hM.size⟩, hM⟩
end Go.Proofs.Ytdacclcaopmalaa
