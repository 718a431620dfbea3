/- Wishes: a tick. · Acts as records; the chapter's example of wishes. · Wishes one after the other: the names of so many blocks. No program. -/
import Derived.Test.YtajkjiegcmpjaaaPk18
import Derived.Test.YtajkjiegcmpjaaaPk07
import Derived.Test.YtajkjiegcmpjaaaPk11
import Derived.Deep.Cut
import Derived.Test.YtajkjiegcmpjaaaPk05
namespace Go.Proofs.Ytajkjiegcmpjaaa
set_option maxHeartbeats 3200000
set_option maxRecDepth 100000
open Go.RowKit
def askM (me n : Int) : MsgD := ⟨2, me, 0, 0, n, 0, TxD.zero, BlkD.zero⟩
def atRow (n : Int) (d : MsgD) : List Value := .int .i64 n :: mRow d (.slice none 0 0)
theorem atRow_len (n : Int) (d : MsgD) : (atRow n d).length = 14 := rfl
theorem at_one (n : Int) (d : MsgD) : ∀ u ∈ atRow n d, u.oneCell' = true := by
  intro u hu
  rcases List.mem_cons.1 hu with rfl | hu
  · rfl
  · exact m_one (d := d) rfl u hu
def askR (me : Int) (x : Int × Int) : List Value := atRow x.1 (askM me x.2)
theorem Try.enAct : ElN Try.prog 32 59 14 128 (.agg (.int .i64 0 :: mZero).toArray) := ElN.of Try.underlying32 (by kernel_rfl) rfl (by decide) (by decide)
theorem run_atbuild (n : Int) (d : MsgD) (u : Value) (w : World) : (Instr.build 59 #[(0, .int .i64 n), (1, .agg (mRow d u).toArray)]).run Try.prog w = .ok (.agg (.int .i64 n :: mRow d u).toArray) w := by
  unfold Instr.build
  simp [run_underlying Try.underlying59, Try.sizeOf3, Try.sizeOf57, Instr.fill, Value.cells, mRow]
theorem runs_rowload {P : Program} {o : Oper} {ρ : Operand → Value} {w : World} {ty : TypeId} (x : Operand) {p : Addr} {row : List Value} {i : Nat} {u : Value} (ho : o.op = .load ty x) (hx : ρ x = .pointer (some (p.add i))) (h : RowAt w p row) (hi : row[i]? = some u) (ha : (isAgg ty).run P w = .ok false w) : Runs P o ρ w u := by
  have hc := h i u hi
  unfold Runs execOp
  simp [ho, hx, go_sem, ha, hc]
theorem runs_atbuild {o : Oper} {ρ : Operand → Value} {w : World} {n : Int} {d : MsgD} (y x : Operand) (ho : o.op = .build 59 #[(0, y), (1, x)]) (hy : ρ y = .int .i64 n) (hx : ρ x = .agg (mRow d (.slice none 0 0)).toArray) : Runs Try.prog o ρ w (.agg (atRow n d).toArray) := by
  have hr := run_atbuild n d (.slice none 0 0) w
  unfold Runs execOp
  simp [ho, hx, hy, hr]
  rfl
theorem retF {f : FuncId} {args : Array Value} {w : World} {u : Value} (h : Calls Try.prog f args w fun e w' => e = .returned u ∧ Ext w w') : Calls Try.prog f args w fun e w' => ∃ v', e = .returned v' ∧ Ext w w' ∧ Sp.p (.val u) v' w' := by
  refine h.mono ?_
  rintro e w' ⟨rfl, hx⟩
  exact ⟨_, rfl, hx, rfl⟩
namespace Fe
def mid (l : List WtD) (k : Nat) : List WtD := (l.take k).map up ++ l.drop k
theorem mid_zero (l : List WtD) : mid l 0 = l := by simp [mid]
theorem mid_len (l : List WtD) (k : Nat) : (mid l k).length = l.length := by simp [mid]; omega
theorem mid_at {l : List WtD} {k : Nat} {d : WtD} (h : l[k]? = some d) : (mid l k)[k]? = some d := by
  have hk := (List.getElem?_eq_some_iff.1 h).1
  unfold mid
  rw [List.getElem?_append_right (by simp; omega)]
  simp only [List.length_map, List.length_take]
  rw [Nat.min_eq_left (by omega), Nat.sub_self, List.getElem?_drop, Nat.add_zero]; exact h
theorem mid_succ {l : List WtD} {k : Nat} {d : WtD} (h : l[k]? = some d) : (mid l k).set k (up d) = mid l (k + 1) := by
  have hk := (List.getElem?_eq_some_iff.1 h).1
  have he := (List.getElem?_eq_some_iff.1 h).2
  unfold mid
  have e1 : (List.map up (List.take k l)).length = k := by simp; omega
  rw [List.set_append_right _ _ (by omega), e1, Nat.sub_self, List.drop_eq_getElem_cons hk, List.set_cons_zero, List.take_add_one, h, List.map_append]
  simp
theorem mid_row {l : List WtD} {k : Nat} {d : WtD} (h : l[k]? = some d) (hk : k < ((mid l k).map WtD.row).length) : ((mid l k).map WtD.row)[k] = d.row := by
  have := mid_at h
  rw [List.getElem_map]
  congr 1
  exact (List.getElem?_eq_some_iff.1 this).2
theorem mid_rows {l : List WtD} {k : Nat} {d : WtD} (h : l[k]? = some d) : ((mid l k).map WtD.row).set k (d.row.set 1 (.int .i64 (d.ak + 1))) = (mid l (k + 1)).map WtD.row := by
  rw [← mid_succ h, List.map_set]
  rfl
theorem mid_tick {l : List WtD} {nd : Int} (h : ¬ nd ≤ 1) : mid l (min l.length 8) = tick nd l := by
  unfold mid tick
  rw [if_neg h]
  by_cases h8 : 8 ≤ l.length
  · rw [Nat.min_eq_right h8]
  · rw [Nat.min_eq_left (by omega), List.take_length, List.drop_length, List.take_of_length_le (by omega), List.drop_of_length_le (by omega)]
theorem asks_all {l : List WtD} {me nd : Int} (h : ¬ nd ≤ 1) : (l.take (min l.length 8)).map (ask1 me nd) = asks me nd l := by
  unfold asks
  rw [if_neg h]
  by_cases h8 : 8 ≤ l.length
  · rw [Nat.min_eq_right h8]
  · rw [Nat.min_eq_left (by omega), List.take_length, List.take_of_length_le (by omega)]
end Fe
theorem FTick_any {F : Nat → Prop} {w : World} {p : Nat} {me nd : Int} {l : List WtD} {b : Nat} (h0 : Ft F w p me nd l) (hok : Fe.Ok b l) (hb : b ≤ 1000000) (hnd0 : 1 ≤ nd ∧ nd ≤ 7) (hme0 : 0 ≤ me ∧ me < nd) :
    Calls Try.prog 18 #[.pointer (some ⟨p, 0, none⟩)] w fun e w' => ∃ u, e = .returned u ∧ Ft F w' p me nd (Fe.tick nd l) ∧ RowN (fun k => w.heap.size ≤ k) w' 59 14 u ((Fe.asks me nd l).map (askR me)) ∧ Mod F w w' := by
  refine z2cz ?_
  obtain ⟨v, f10, hrow0, hFp, hFl⟩ := h0
  have f1 := hide_ f10
  have hr := hide_ hrow0
  have hX := Ext.refl w
  by_cases h1 : nd ≤ 1
  · have hq := decide_eq_true h1
    have ha := hide_ (show Fe.tick nd l = l from by unfold Fe.tick; rw [if_pos h1])
    have hc := hide_ (show Fe.asks me nd l = [] from by unfold Fe.asks; rw [if_pos h1])
    clear f10 hrow0 hok h1
    go_enter Try.func18, Try.ntmps18
    go_wp2_with (first | (go_at_call 32; refine (alone_any (f1.out.ext hX) hq).mono ?_; rintro e w4 ⟨rfl, hx⟩; replace hX := hX.trans hx; clear hx) | fail)
    go_ret
    exact Keep.intro ⟨_, rfl, by rw [ha.out]; exact ⟨v, f1.out.ext hX, hr.out.ext hX, hFp, fun k hk => Nat.lt_of_lt_of_le (hFl k hk) hX.size⟩, by rw [hc.out]; exact RowN.nil _ _ _, hX.mod F⟩
  have hq := decide_eq_false h1
  obtain ⟨m, hm0⟩ : ∃ m, min l.length 8 = m := ⟨_, rfl⟩
  have hmin := hide_ (show (m : Int) = min (l.length : Int) 8 from by omega)
  have hml := hide_ (show m ≤ l.length from by omega)
  have hm8 : m ≤ 8 := by omega
  have ha := hide_ (show Fe.mid l m = Fe.tick nd l from by rw [← hm0]; exact Fe.mid_tick h1)
  have hc := hide_ (show (l.take m).map (Fe.ask1 me nd) = Fe.asks me nd l from by rw [← hm0]; exact Fe.asks_all h1)
  have haks := hide_ hok.ak
  have hnd := hide_ (show 2 ≤ nd ∧ nd ≤ 7 from by omega)
  have hme := hide_ hme0
  have hb' := hide_ hb
  have hFl' := hide_ hFl
  clear f10 hrow0 hok h1 hm0
  go_enter Try.func18, Try.ntmps18
  go_wp2_with ((first | (go_at_call 32; refine (alone_any (f1.out.ext hX) hq).mono ?_; rintro e w4 ⟨rfl, hx⟩; replace hX := hX.trans hx; clear hx) | refine zoz ?_ | ((with_reducible refine at_bi ?_); (try refine w_yes _ _ _ rfl rfl rfl ?_); refine w_rlen Try.elWt _ rfl rfl rfl (wt_recs (hr.out.ext hX)) ?_) | ((with_reducible refine at_bi ?_); refine w_min _ _ (m : Int) hmin.out rfl rfl rfl rfl ?_) | fail) <;> (try refine z0z ?_))
  go_loopw [3, 15] (fun u3 i wr => ∃ k : Nat, i = .int .i64 k ∧ k ≤ m ∧ Fs wr p [.int .i64 me, .int .i64 nd, v] ∧ RowN (fun k => F k ∧ k ≠ p) wr 82 2 v ((Fe.mid l k).map WtD.row) ∧ RowN (fun k => w.heap.size ≤ k) wr 59 14 u3 (((l.take k).map (Fe.ask1 me nd)).map (askR me)) ∧ Mod F w wr) (fun _ i _ => m - (RowKit.intOf i).toNat)
  case atStart => exact ⟨0, rfl, Nat.zero_le _, f1.out.ext hX, by rw [Fe.mid_zero]; exact hr.out.ext hX, RowN.nil _ _ _, hX.mod F⟩
  case round =>
    clear hX
    obtain ⟨k, rfl, hk, f1r, hrr, hao, hM⟩ := hrel
    by_cases hge : m ≤ k
    · obtain rfl : k = m := by omega
      have t2 : decide (k < k) = false := by simp
      clear hge
      go_wp2
      go_ret
      refine Keep.intro ⟨_, rfl, ?_, by rw [← hc.out]; exact hao, hM⟩
      rw [← ha.out]
      exact ⟨v, f1r, hrr, hFp, fun k hk => Nat.lt_of_lt_of_le (hFl k hk) hM.size⟩
    have hlt : k < m := by omega
    have t2 : decide (k < m) = true := by simpa using hlt
    obtain ⟨d, hd0⟩ : ∃ d, l[k]? = some d := ⟨_, List.getElem?_eq_getElem (by have := hml.out; omega)⟩
    have hlt' := hide_ hlt
    have hd := hide_ hd0
    have hak1 : 0 ≤ d.ak := (haks.out d (List.mem_of_getElem? hd0)).1
    have hak2 : d.ak ≤ 1000000 := by have := (haks.out d (List.mem_of_getElem? hd0)).2; have := hb'.out; omega
    have hakB := hide_ (show 0 ≤ d.ak ∧ d.ak ≤ 9223372036854775807 from by omega)
    have hkr := hide_ (show k < ((Fe.mid l k).map WtD.row).length from by rw [List.length_map, Fe.mid_len]; have := hml.out; omega)
    have hrw := hide_ (Fe.mid_row hd0 hkr.out)
    have hset := hide_ (Fe.mid_rows hd0)
    have hsn := hide_ (show ((l.take (k + 1)).map (Fe.ask1 me nd)).map (askR me) = ((l.take k).map (Fe.ask1 me nd)).map (askR me) ++ [atRow (Fe.peer me nd d.ak) (askM me d.nm)] from by rw [List.take_add_one, hd0]; simp [Fe.ask1, askR])
    have hlenE := hide_ (show ((((l.take k).map (Fe.ask1 me nd)).map (askR me)).length + ([atRow (Fe.peer me nd d.ak) (askM me d.nm)] : List (List Value)).length) * 128 ≤ 140737488355328 from by simp; omega)
    obtain ⟨rowsE, hrE⟩ : ∃ x, ((l.take k).map (Fe.ask1 me nd)).map (askR me) = x := ⟨_, rfl⟩
    rw [hrE] at hao hsn hlenE
    have f1' := hide_ f1r
    have hrr' := hide_ hrr
    have hao' := hide_ hao
    have hM' := hide_ hM
    clear hge hlt hd0 hrE hM hao
    go_wp2_with ((first | ((with_reducible refine at_field ?_); (try refine w_yes _ _ _ rfl rfl rfl ?_); refine w_field Try.stFet _ _ _ rfl rfl rfl (by omega) ?_) | ((with_reducible refine at_load ?_); (try refine w_yes _ _ _ rfl rfl rfl ?_); refine w_fload _ rfl rfl rfl f1'.out rfl (agg_of (by kernel_rfl)) ?_) | ((with_reducible refine at_idx ?_); refine w_nidx Try.elWt _ _ rfl rfl rfl rfl hrr'.out hkr.out ?_; intro g hg0 hrow0; rw [hrw.out] at hrow0; have hrow := hide_ hrow0; have hg := hide_ hg0; clear hrow0 hg0) | fail) <;> (try refine z0z ?_))
    have f1 := f1'.out
    refine zpz ?_; intro wd hxd; have F1 := f1.ext hxd; have RW := hrow.out.ext hxd
    refine Ph.gate 0 10 (by kernel_rfl) ?_
    refine z1xz ?_
    refine LinL.step (s := (.val (.pointer (some ⟨p, 0, none⟩)))) [(24, some 0)] rfl (by kernel_rfl) (op_runs rfl fun σ w' hx hg => ⟨_, runs_nil (ρ := σ.eval) (w := w') (.tmp 24) rfl hg.1, rfl⟩) ?_
    refine LinL.step (s := (.val (.pointer (some ⟨p, 0, none⟩)))) [(25, some 0)] rfl (by kernel_rfl) (op_runs rfl fun σ w' hx hg => ⟨_, runs_field (ρ := σ.eval) (w := w') Try.stFet (.tmp 25) p 0 rfl hg.1 (by omega), rfl⟩) ?_
    refine LinL.step (s := (.val (.int .i64 me))) [(26, some 0)] rfl (by kernel_rfl) (op_runs rfl fun σ w' hx hg => ⟨_, runs_fload (ρ := σ.eval) (w := w') (.tmp 26) rfl hg.1 (agg_of (by kernel_rfl) _) (F1.ext hx) rfl, rfl⟩) ?_
    refine LinL.step (s := (.val (.pointer (some ⟨g, k * 2, none⟩)))) [(5, none)] rfl (by kernel_rfl) (op_out 5 (.pointer (some ⟨g, k * 2, none⟩)) rfl (.inl rfl) rfl) ?_
    refine LinL.step (s := (.val (.pointer (some ⟨g, k * 2, none⟩)))) [(28, some 0)] rfl (by kernel_rfl) (op_runs rfl fun σ w' hx hg => ⟨_, runs_nil (ρ := σ.eval) (w := w') (.tmp 28) rfl hg.1, rfl⟩) ?_
    refine LinL.step (s := (.val (.pointer (some ((⟨g, k * 2, none⟩ : Addr).add 0))))) [(29, some 0)] rfl (by kernel_rfl) (op_runs rfl fun σ w' hx hg => ⟨_, runs_pfield (ρ := σ.eval) (w := w') Try.stWt (.tmp 29) 0 rfl hg.1 (by omega), rfl⟩) ?_
    refine LinL.step (s := (.val (.int .i64 d.nm))) [(30, some 0)] rfl (by kernel_rfl) (op_runs rfl fun σ w' hx hg => ⟨_, runs_rowload (ρ := σ.eval) (w := w') (.tmp 30) rfl hg.1 (RW.ext hx) rfl (agg_of (by kernel_rfl) _), rfl⟩) ?_
    refine LinL.step (s := (.val (.agg #[.int .i64 2, .int .i64 me, .int .i64 0, .int .i64 0, .int .i64 d.nm, .int .i64 0, .int .i64 0, .int .i64 0, .int .i64 0, .int .i64 0, .int .i64 0, .int .i64 0, .slice none 0 0]))) [(27, some 4), (31, some 0)] rfl (by kernel_rfl) (op_runs rfl fun σ w' hx hg => ⟨_, runs_mbuild (ρ := σ.eval) (w := w') [.int .i64 2, .int .i64 me, .int .i64 0, .int .i64 0, .int .i64 d.nm, .int .i64 0, .int .i64 0, .int .i64 0, .int .i64 0, .int .i64 0, .int .i64 0, .int .i64 0, .slice none 0 0] (ps := #[(0, .const (.int .i64 2)), (1, .tmp 27), (4, .tmp 31)]) rfl (by have h27 : σ.tmps.getD 27 undef = .int .i64 me := hg.1; have h31 : σ.tmps.getD 31 undef = .int .i64 d.nm := hg.2.1; simp only [List.map_cons, List.map_nil, Act.eval, h27, h31, mZero, List.foldl_cons, List.foldl_nil, List.set_cons_zero, List.set_cons_succ]) (by have h27 : σ.tmps.getD 27 undef = .int .i64 me := hg.1; have h31 : σ.tmps.getD 31 undef = .int .i64 d.nm := hg.2.1; intro p hp; simp at hp; rcases hp with rfl | rfl | rfl; exact ⟨by decide, rfl⟩; exact ⟨by decide, by show (σ.tmps.getD 27 undef).cells = #[σ.tmps.getD 27 undef]; rw [h27]; exact rfl⟩; exact ⟨by decide, by show (σ.tmps.getD 31 undef).cells = #[σ.tmps.getD 31 undef]; rw [h31]; exact rfl⟩), rfl⟩) ?_
    refine LinL.step (s := (Sp.fs wd.heap.size mZero)) [] rfl (by kernel_rfl) (op_agalloc Try.agMsg (Nat.le_refl _) rfl rfl) ?_
    intro wN hxN
    simp only [Fin', Sp.fs, List.reverse_cons, List.reverse_nil, List.nil_append, List.cons_append, List.drop_zero, List.take_succ_cons, List.take_zero]
    intro q6 hq6
    refine z0z ?_
    obtain ⟨g6, rfl, hg6, f5⟩ := hq6
    refine zhz ?_
    refine w_astoreN Try.stMsg (us := [.int .i64 2, .int .i64 me, .int .i64 0, .int .i64 0, .int .i64 d.nm, .int .i64 0, .int .i64 0, .int .i64 0, .int .i64 0, .int .i64 0, .int .i64 0, .int .i64 0, .slice none 0 0]) _ _ rfl rfl rfl rfl rfl f5 rfl rfl (m_one (d := askM me d.nm) rfl) ?_; intro w9 hm9 f9
    show Ph Try.prog _ _ 11 _ _
    refine Ph.rest 11 0 (by kernel_rfl) ?_
    intro wM hxM
    refine z1az ?_
    have hgF : F g ∧ g ≠ p := hrr'.out.inF g hg.out
    have hgl : g < wr.heap.size := hrr'.out.lt hg.out
    have hx9 : Ext wr wM := (hm9.after (hxd.trans hxN) fun j e => e ▸ Nat.le_trans hxd.size hg6).trans hxM
    obtain ⟨wE, hwE⟩ : ∃ wE, wE = wM := ⟨_, rfl⟩
    have f6E := hide_ (show Fs wE g6 (mRow (askM me d.nm) (.slice none 0 0)) from hwE ▸ f9.ext hxM)
    have f1E := hide_ (show Fs wE p _ from hwE ▸ f1'.out.ext hx9)
    have hrowE := hide_ (show RowAt wE ⟨g, k * 2, none⟩ d.row from hwE ▸ hrow.out.ext hx9)
    have hrrE := hide_ (show RowN _ wE _ _ _ _ from hwE ▸ hrr'.out.ext hx9)
    have hownE := hide_ (show RowN (fun j => u3.ownBlock = some j) wE 59 14 u3 rowsE from hwE ▸ ⟨(hao'.out.ext hx9).own, (hao'.out.ext hx9).each, fun _ h => h⟩)
    have haoE := hide_ (show RowN _ wE _ _ _ _ from hwE ▸ hao'.out.ext hx9)
    have hME := hide_ (show Mod F w wE from hwE ▸ hM'.out.trans (hx9.mod F) fun _ _ h => h)
    clear hxd hxN hxM hm9 f9 f5 F1 RW hx9 f1 f1' hrr' hao' hM' hrow hg6 f1r hrr
    subst hwE
    go_wp2
    have hrowD := hide_ (hrowE.out.ext (Ext.refl _).drew)
    have f6D := hide_ (f6E.out.ext (Ext.refl _).drew)
    have f1D := hide_ (f1E.out.ext (Ext.refl _).drew)
    refine wp_region_linT 10 (by kernel_rfl) (by kernel_rfl) ?_
    refine LinR.step (s := (.val (u3))) [(3, none)] rfl (by kernel_rfl) (op_out 3 (u3) rfl (.inl rfl) rfl) ?_
    refine LinR.step (s := (.val (.pointer (some ⟨p, 0, none⟩)))) [(0, none)] rfl (by kernel_rfl) (op_out 0 (.pointer (some ⟨p, 0, none⟩)) rfl (.inl rfl) rfl) ?_
    refine LinR.step (s := (.val (.pointer (some ⟨g, k * 2, none⟩)))) [(5, none)] rfl (by kernel_rfl) (op_out 5 (.pointer (some ⟨g, k * 2, none⟩)) rfl (.inl rfl) rfl) ?_
    refine LinR.step (s := (.val (.pointer (some ⟨g, k * 2, none⟩)))) [(35, some 0)] rfl (by kernel_rfl) (op_runs rfl fun σ w' hx hg => ⟨_, runs_nil (ρ := σ.eval) (w := w') (.tmp 35) rfl hg.1, rfl⟩) ?_
    refine LinR.step (s := (.val (.pointer (some ((⟨g, k * 2, none⟩ : Addr).add 1))))) [(36, some 0)] rfl (by kernel_rfl) (op_runs rfl fun σ w' hx hg => ⟨_, runs_pfield (ρ := σ.eval) (w := w') Try.stWt (.tmp 36) 1 rfl hg.1 (by omega), rfl⟩) ?_
    refine LinR.step (s := (.val (.int .i64 d.ak))) [(37, some 0)] rfl (by kernel_rfl) (op_runs rfl fun σ w' hx hg => ⟨_, runs_rowload (ρ := σ.eval) (w := w') (.tmp 37) rfl hg.1 (hrowD.out.ext hx) rfl (agg_of (by kernel_rfl) _), rfl⟩) ?_
    refine LinR.step (s := (.val (.int .i64 (Fe.peer me nd d.ak)))) [(34, some 4), (38, some 0)] rfl (by kernel_rfl) (op_calls 33 #[(.tmp 34), (.tmp 38)] #[29, 3] (fun σ => #[.pointer (some ⟨p, 0, none⟩), .int .i64 d.ak]) rfl rfl (fun _ _ => rfl) fun σ w' hx hg => ⟨by have h34 : σ.tmps.getD 34 undef = .pointer (some ⟨p, 0, none⟩) := hg.1; have h38 : σ.tmps.getD 38 undef = .int .i64 d.ak := hg.2.1; simp only [List.map_toArray, List.map_cons, List.map_nil, Act.eval, h34, h38], retF (peer_any (f1D.out.ext hx) hnd.out hme.out hakB.out)⟩) ?_
    refine LinR.step (s := (.val (.agg (mRow (askM me d.nm) (.slice none 0 0)).toArray))) [(6, none)] rfl (by kernel_rfl) (op_runs rfl fun σ w' hx hg => ⟨_, runs_loadN (ρ := σ.eval) (w := w') (us := mRow (askM me d.nm) (.slice none 0 0)) Try.stMsg (.tmp 6) rfl hg.1 (f6D.out.ext hx) rfl mself_at, rfl⟩) ?_
    refine LinR.step (s := (.val (.agg (atRow (Fe.peer me nd d.ak) (askM me d.nm)).toArray))) [(39, some 1), (40, some 0)] rfl (by kernel_rfl) (op_runs rfl fun σ w' hx hg => ⟨_, runs_atbuild (ρ := σ.eval) (w := w') (.tmp 39) (.tmp 40) rfl hg.1 hg.2.1, rfl⟩) ?_
    refine LinR.step (s := (Sp.sls 14 [atRow (Fe.peer me nd d.ak) (askM me d.nm)])) [(41, some 0)] rfl (by kernel_rfl) (op_nbuild Try.enAct [atRow (Fe.peer me nd d.ak) (askM me d.nm)] 1 #[(0, .tmp 41)] rfl rfl rfl (by omega) (by simp [atRow_len]) fun σ w' hx hg => by have h41 : σ.tmps.getD 41 undef = .agg (atRow (Fe.peer me nd d.ak) (askM me d.nm)).toArray := hg.1; simp only [List.map_cons, List.map_nil, Act.eval, h41]; rfl) ?_
    intro wN hxN
    simp only [Fin', Sp.sls, List.reverse_cons, List.reverse_nil, List.nil_append, List.cons_append, List.take_succ_cons, List.take_zero]
    intro q42 hq42
    simp only [Act.put, List.setIfInBounds_toArray, List.set_cons_zero, List.set_cons_succ, List.drop_succ_cons, List.drop_zero]
    have hxE := (Ext.refl wE).drew.trans hxN
    go_upto_region 10 with (first | (at_builtin; refine w_napp Try.enAct (.tmp 33) (.tmp 42) rfl rfl rfl rfl (hownE.out.ext hxE) hq42 (by simp) (fun y hy => by rw [List.mem_singleton] at hy; subst hy; exact at_one _ _) hlenE.out ?_; intro v7 w7 hm7 hr7) | fail)
    have hmT := (hxE.mod fun j => u3.ownBlock = some j).trans hm7 fun _ _ h => h
    have hrT : RowN (grow (fun j => u3.ownBlock = some j) wE w7) w7 59 14 v7 (rowsE ++ [atRow (Fe.peer me nd d.ak) (askM me d.nm)]) := hr7.mono fun j hj => hj.elim .inl fun h => .inr ⟨Nat.le_trans hxE.size h.1, h.2⟩
    have hnew : ∀ j, u3.ownBlock = some j → w.heap.size ≤ j := fun j hj => haoE.out.inF j hj
    have hMF : Mod F w w7 := hME.out.trans hmT fun j hj h => absurd (hnew j h) (by omega)
    have hpn : ¬ u3.ownBlock = some p := fun e => by have := hnew p e; have := hFl'.out p hFp; omega
    have f1T := hide_ (f1E.out.mod hmT hpn)
    have hgn : ¬ u3.ownBlock = some g := fun e => by have := hnew g e; have := hFl'.out g hgF.1; omega
    have hrowT := hide_ (hrowE.out.mod hmT hgn)
    have hrrT := hide_ (hrrE.out.mod hmT fun j hj e => by have := hnew j e; have := hFl'.out j hj.1; omega)
    have hacT := hide_ (show RowN (fun j => w.heap.size ≤ j) w7 59 14 _ _ from hrT.mono fun j hj => hj.elim (hnew j) fun h => Nat.le_trans hME.out.size h.1)
    have hMT := hide_ hMF
    clear hmT hrT hMF hpn hgn f1E hrowE hrrE hownE haoE hME f6E hrowD f6D f1D hxE hxN hm7 hr7
    go_wp2_with ((first | ((with_reducible refine at_field ?_); (try refine w_yes _ _ _ rfl rfl rfl ?_); refine w_pfield Try.stWt _ 1 rfl rfl rfl (by omega) ?_) | ((with_reducible refine at_load ?_); (try refine w_yes _ _ _ rfl rfl rfl ?_); refine w_rowload (p := ⟨g, k * 2, none⟩) (i := 1) _ rfl rfl rfl hrowT.out rfl (agg_of (by kernel_rfl)) ?_) | ((with_reducible refine at_store ?_); refine w_nstore (i := k) (j := 1) _ _ (u := .int .i64 (d.ak + 1)) rfl rfl rfl rfl rfl rfl (by kernel_rfl) hrrT.out hg.out hkr.out (by omega) ?_; intro w8 hm8 hr8) | fail) <;> (try refine z0z ?_))
    rw [hrw.out, hset.out] at hr8
    have hd8 : ∀ j, (fun k => k = g) j → F j := fun j e => e ▸ hgF.1
    have f18 := f1T.out.mod hm8 fun e => hgF.2 e.symm
    have hac8 := hacT.out.mod hm8 fun j hj e => by have := hFl'.out g hgF.1; have e2 : j = g := e; omega
    have hM8 := hMT.out.trans hm8 fun _ _ e => hd8 _ e
    rw [← hsn.out] at hac8
    go_roundw
    case rel => exact ⟨k + 1, by go_num, hlt'.out, f18, hr8, hac8, hM8⟩
    case measure => have := hlt'.out; simp [RowKit.intOf]; omega
end Go.Proofs.Ytajkjiegcmpjaaa
namespace Go.Proofs.Ytajkjiegcmpjaaa
set_option maxHeartbeats 3200000
set_option maxRecDepth 100000
open Go.RowKit Go.ChangeShapes Go.WideShapes Go.ChangeAt
def AtR (me : Int) (_ : World) (row : List Value) (x : Int × Int) : Prop := row = askR me x
theorem AtR.stays (me : Int) : Stays (AtR me) := fun _ _ _ _ h _ => h
theorem Try.elAt : ElS Try.prog 32 59 14 := Try.enAct.elS
theorem at_recs {F : Nat → Prop} {w : World} {v : Value} {me : Int} {l : List (Int × Int)} (hr : RowN F w 59 14 v (l.map (askR me))) : Recs 14 (AtR me) w v l := hr.recs (by simp) fun k row d h1 h2 => by
  rw [List.getElem?_map, h2] at h1
  injection h1 with h1
  exact h1.symm
theorem w_atidx {P : Program} {ops : Array Oper} {rest : List Oper} {o : Oper} {a : Act} {Q : Exit → Act → World → Prop} {w W0 : World} {t e : TypeId} {v : Value} {me : Int} {l : List (Int × Int)} (E : ElS P t e 14) (x y : Operand) (i : Nat) (hgd : o.guard = none) (ho : o.op = .indexAddr t x y) (hv : a.eval x = v) (hy : a.eval y = .int .i64 i)
    (h : Recs 14 (AtR me) W0 v l) (he : Ext W0 w) {d : Int × Int} (hd : l[i]? = some d) (k : ∀ p, RowAt w p (askR me d) → wpList P ops Q rest (a.put o.dst (.pointer (some p))) w) : wpList P ops Q (o :: rest) a w := by
  have hi := (List.getElem?_eq_some_iff.1 hd).1
  have e : l[i] = d := (List.getElem?_eq_some_iff.1 hd).2
  refine w_ridx0 E x y i (AtR.stays me) hgd ho hv hy h he hi ?_
  rintro pa row hrow _ hR
  rw [e] at hR
  have hr : row = askR me d := hR
  subst hr
  exact k pa (hrow.ext he)
theorem okA (k : Nat) (hk : k ≤ 3 := by decide) : Fe.Ok 3 [⟨65536, k⟩] := ⟨by simp, by simp, fun x hx => by simp at hx; subst hx; show NmOk 65536; decide, fun x hx => by simp at hx; subst hx; constructor <;> (simp only; omega)⟩
theorem i64A : I64 65536 := by unfold I64; omega
theorem canA : Fe.can [] 65536 = true := by decide
theorem canB : Fe.can [⟨65536, 0⟩] 65536 = false := by decide
theorem wantA : Fe.want [] 65536 = [⟨65536, 0⟩] := by kernel_rfl
theorem wantB : Fe.want [⟨65536, 0⟩] 65536 = [⟨65536, 0⟩] := by kernel_rfl
theorem gotA (k : Int) : Fe.got [⟨65536, k⟩] 65536 = [] := rfl
theorem fetchAlive_any (W : World) : Calls Try.prog 15 #[] W fun e w' => e = .returned (.bool true) ∧ Ext W w' := by
  refine z2cz ?_
  have hX := Ext.refl W
  have tok1 : True := trivial
  go_enter Try.func15, Try.ntmps15
  go_wp2_with (first | (go_at_call 16; refine (FNew_any 0 3).mono ?_; rintro e w1 ⟨p, rfl, hP, hx, hp⟩; have hO : Out W (fun k => k = p) w1 := ⟨hX.trans hx, fun k hk => hk ▸ Nat.le_trans hX.size hp⟩; clear hx hp) | (go_at_call 17; refine (FWant_any hP (Fe.Ok.nil 0) i64A canA).mono ?_; have _t := tok1; rintro e w2 ⟨F1, rfl, hP2, hU⟩; rw [wantA] at hP2; clear tok1 _t; replace hP := hP2; replace hO := hO.upd hU; clear hP2 hU) | (go_at_call 17; refine (FWant_any hP (okA 0) i64A canB).mono ?_; rintro e w2 ⟨F2, rfl, hP2, hU⟩; rw [wantB] at hP2; replace hP := hP2; replace hO := hO.upd hU; clear hP2 hU) | fail)
  go_loopw [18] (fun i wr => ∃ (k : Nat) (F : Nat → Prop), i = .int .i64 k ∧ k ≤ 3 ∧ Ft F wr p 0 3 [⟨65536, k⟩] ∧ Out W F wr) (fun i _ => 3 - (RowKit.intOf i).toNat)
  case atStart => exact ⟨0, F2, rfl, by omega, hP, hO⟩
  case round =>
    clear hP hO F2
    obtain ⟨k, F2, rfl, hk, hP, hO⟩ := hrel
    rcases (show k = 0 ∨ k = 1 ∨ k = 2 ∨ k = 3 by omega) with rfl | rfl | rfl | rfl
    · have h4 := hide_ (show (Fe.asks 0 3 [⟨65536, 0⟩])[0]? = some (1, 65536) from rfl)
      go_wp2_with ((first | (go_at_call 18; refine (FTick_any (me := 0) (nd := 3) hP (okA 0 (by decide)) (by decide) (by decide) (by decide)).mono ?_; rintro e w4 ⟨v4, rfl, hP2, hr40, hm⟩; have hr4 := hide_ (at_recs hr40); have hX4 := hO.ext; replace hP := hP2; replace hO := hO.upd ⟨hm, fun _ h => .inl h⟩; clear hr40 hm hP2 hX4) | ((with_reducible refine at_get ?_); refine w_aget Try.underlying76 (by kernel_rfl) (agg_of (by kernel_rfl)) _ _ 0 rfl rfl rfl rfl rfl rfl ?_) | refine z32z ?_ | (refine z3sz ?_; intro pa hrow0; have hrow := hide_ hrow0; clear hrow0) | refine z4az ?_ | fail) <;> (try refine z0z ?_))
      go_roundw
      case rel => exact ⟨1, F2, by go_num, by omega, hP, hO⟩
      case measure => simp [RowKit.intOf]
    · have h4 := hide_ (show (Fe.asks 0 3 [⟨65536, 1⟩])[0]? = some (2, 65536) from rfl)
      go_wp2_with ((first | (go_at_call 18; refine (FTick_any (me := 0) (nd := 3) hP (okA 1 (by decide)) (by decide) (by decide) (by decide)).mono ?_; rintro e w4 ⟨v4, rfl, hP2, hr40, hm⟩; have hr4 := hide_ (at_recs hr40); have hX4 := hO.ext; replace hP := hP2; replace hO := hO.upd ⟨hm, fun _ h => .inl h⟩; clear hr40 hm hP2 hX4) | ((with_reducible refine at_get ?_); refine w_aget Try.underlying76 (by kernel_rfl) (agg_of (by kernel_rfl)) _ _ 1 rfl rfl rfl rfl rfl rfl ?_) | refine z32z ?_ | (refine z3sz ?_; intro pa hrow0; have hrow := hide_ hrow0; clear hrow0) | refine z16z ?_ | ((with_reducible refine at_load ?_); (try refine w_yes _ _ _ rfl rfl rfl ?_); refine w_rowload (p := pa) (i := 0) (u := .int .i64 2) _ rfl rfl rfl hrow.out rfl (agg_of (by kernel_rfl)) ?_) | refine z1tz ?_ | fail) <;> (try refine z0z ?_))
      go_roundw
      case rel => exact ⟨2, F2, by go_num, by omega, hP, hO⟩
      case measure => simp [RowKit.intOf]
    · have h4 := hide_ (show (Fe.asks 0 3 [⟨65536, 2⟩])[0]? = some (1, 65536) from rfl)
      go_wp2_with ((first | (go_at_call 18; refine (FTick_any (me := 0) (nd := 3) hP (okA 2 (by decide)) (by decide) (by decide) (by decide)).mono ?_; rintro e w4 ⟨v4, rfl, hP2, hr40, hm⟩; have hr4 := hide_ (at_recs hr40); have hX4 := hO.ext; replace hP := hP2; replace hO := hO.upd ⟨hm, fun _ h => .inl h⟩; clear hr40 hm hP2 hX4) | ((with_reducible refine at_get ?_); refine w_aget Try.underlying76 (by kernel_rfl) (agg_of (by kernel_rfl)) _ _ 2 rfl rfl rfl rfl rfl rfl ?_) | refine z32z ?_ | (refine z3sz ?_; intro pa hrow0; have hrow := hide_ hrow0; clear hrow0) | refine z4az ?_ | fail) <;> (try refine z0z ?_))
      go_roundw
      case rel => exact ⟨3, F2, by go_num, by omega, hP, hO⟩
      case measure => simp [RowKit.intOf]
    · have tokT : True := trivial
      go_wp2_with ((first | (go_at_call 20; refine (FGot_any (n := 65536) hP (okA 3)).mono ?_; rintro e w2 ⟨F3, rfl, hP2, hU⟩; rw [gotA] at hP2; replace hP := hP2; replace hO := hO.upd hU; clear hP2 hU) | (go_at_call 25; refine (FWanted_any hP.at.choose_spec.1 hP.at.choose_spec.2 (by decide)).mono ?_; rintro e w3 ⟨v3, rfl, o3, hx⟩; replace o3 := o3.ints; replace hP := hP.ext hx; replace hO := hO.extend hx; clear hx) | (go_at_call 18; refine (FTick_any (me := 0) (nd := 3) hP (Fe.Ok.nil 0) (by decide) (by decide) (by decide)).mono ?_; rintro e w4 ⟨v4, rfl, hP2, hr40, hm⟩; have hr4 := hide_ (at_recs hr40); have hX4 := hO.ext; replace hP := hP2; replace hO := hO.upd ⟨hm, fun _ h => .inl h⟩; clear hr40 hm hP2 hX4) | ((with_reducible refine at_bi ?_); (try refine w_yes _ _ _ rfl rfl rfl ?_); refine i_len _ rfl rfl rfl o3 ?_) | refine z32z ?_ | fail) <;> (try refine z0z ?_))
      go_ret
      exact Keep.intro ⟨rfl, hO.ext⟩
end Go.Proofs.Ytajkjiegcmpjaaa
namespace Go.Proofs.Ytajkjiegcmpjaaa
set_option maxRecDepth 100000
open Go.RowKit
namespace Fe
def nmsF (k n : Nat) : List Int := (List.range' k (n + 1 - k)).map fun (i : Nat) => (i : Int) * 65536
theorem nmsF_len (k n : Nat) : (nmsF k n).length = n + 1 - k := by simp [nmsF]
theorem nmsF_get {k n i : Nat} (h : i < n + 1 - k) : (nmsF k n)[i]? = some (((k + i : Nat) : Int) * 65536) := by
  unfold nmsF
  rw [List.getElem?_map, List.getElem?_range' h]
  simp
theorem nmsF_mem {k n : Nat} {x : Int} (h : x ∈ nmsF k n) : ∃ i : Nat, k ≤ i ∧ i ≤ n ∧ x = (i : Int) * 65536 := by
  unfold nmsF at h
  obtain ⟨i, hi, rfl⟩ := List.mem_map.1 h
  rw [List.mem_range'_1] at hi
  exact ⟨i, hi.1, by omega, rfl⟩
theorem nmsF_snoc {n : Nat} : nmsF 1 (n + 1) = nmsF 1 n ++ [((n + 1 : Nat) : Int) * 65536] := by
  unfold nmsF
  rw [show n + 1 + 1 - 1 = n + 1 from by omega, show n + 1 - 1 = n from by omega, List.range'_concat, List.map_append]
  simp
  omega
theorem nmsF_cons {k n : Nat} (h : k ≤ n) : nmsF k n = ((k : Nat) : Int) * 65536 :: nmsF (k + 1) n := by
  unfold nmsF
  rw [show n + 1 - k = (n + 1 - (k + 1)) + 1 from by omega, List.range'_succ]
  rfl
theorem nmsF_end {n : Nat} : nmsF (n + 1) n = [] := by simp [nmsF]
theorem nmOk_k {k : Nat} (h1 : 1 ≤ k) (h2 : k ≤ 4095) : NmOk ((k : Int) * 65536) := by
  refine ⟨by omega, by omega, by omega, by omega⟩
theorem can_next {l : List WtD} {k : Nat} (hl : l.map (·.nm) = nmsF 1 k) (hk : k < 32) : can l (((k + 1 : Nat) : Int) * 65536) = true := by
  refine can_iff.2 ⟨nmOk_k (by omega) (by omega), fun h => ?_, ?_⟩
  · rw [hl] at h
    obtain ⟨i, _, h2, h3⟩ := nmsF_mem h
    omega
  · have := congrArg List.length hl
    rw [List.length_map, nmsF_len] at this
    omega
theorem want_next {l : List WtD} {k : Nat} (hl : l.map (·.nm) = nmsF 1 k) (hk : k < 32) : (want l (((k + 1 : Nat) : Int) * 65536)).map (·.nm) = nmsF 1 (k + 1) := by
  unfold want
  rw [if_pos (can_next hl hk), List.map_append, hl, nmsF_snoc]
  rfl
theorem got_names (l : List WtD) (n : Int) : (got l n).map (·.nm) = (l.map (·.nm)).filter fun x => !(x == n) := by
  unfold got
  rw [List.filter_map]
  rfl
theorem got_next {l : List WtD} {k n : Nat} (hl : l.map (·.nm) = nmsF k n) (hk : k ≤ n) : (got l ((k : Int) * 65536)).map (·.nm) = nmsF (k + 1) n := by
  rw [got_names, hl, nmsF_cons hk, List.filter_cons_of_neg (by simp), List.filter_eq_self]
  intro x hx
  obtain ⟨i, h1, _, rfl⟩ := nmsF_mem hx
  have : ¬ (i : Int) * 65536 = (k : Int) * 65536 := by omega
  simpa using this
theorem asks_len {me nd : Int} {l : List WtD} (h : ¬ nd ≤ 1) : (asks me nd l).length = min 8 l.length := by
  unfold asks
  rw [if_neg h]
  simp
theorem asks_get {me nd : Int} {l : List WtD} {i : Nat} {y : Int × Int} (h : ¬ nd ≤ 1) (hy : (asks me nd l)[i]? = some y) : ∃ x, l[i]? = some x ∧ y = ask1 me nd x ∧ i < 8 := by
  unfold asks at hy
  rw [if_neg h, List.getElem?_map, Option.map_eq_some_iff] at hy
  obtain ⟨x, hx, rfl⟩ := hy
  rw [List.getElem?_take] at hx
  split at hx
  · exact ⟨x, hx, rfl, by assumption⟩
  · cases hx
theorem asks_name {me nd : Int} {l : List WtD} {k n i : Nat} {y : Int × Int} (h : ¬ nd ≤ 1) (hl : l.map (·.nm) = nmsF k n) (hy : (asks me nd l)[i]? = some y) : y.2 = ((k + i : Nat) : Int) * 65536 := by
  obtain ⟨x, hx, rfl, _⟩ := asks_get h hy
  have h1 : (l.map (·.nm))[i]? = some x.nm := by rw [List.getElem?_map, hx]; rfl
  have h2 := (List.getElem?_eq_some_iff.1 h1).1
  rw [hl] at h1 h2
  rw [nmsF_len] at h2
  rw [nmsF_get h2] at h1
  injection h1 with h1
  exact h1.symm
end Fe
theorem FWantedH {F : Nat → Prop} {w : World} {p : Nat} {me nd : Int} {l : List WtD} (h : Ft F w p me nd l) (hfew : l.length ≤ 32) :
    Calls Try.prog 25 #[.pointer (some ⟨p, 0, none⟩)] w fun e w' => ∃ u, e = .returned u ∧ OwnI w.heap.size w' u (l.map (·.nm)) ∧ Ext w w' := by
  obtain ⟨v, f, hr⟩ := h.at
  exact FWanted_any f hr hfew
theorem Try.stAt : StN Try.prog 59 14 (.int .i64 0 :: mZero) := StN.of (by kernel_rfl) (by kernel_rfl) rfl
theorem runs_shl16 {P : Program} {o : Oper} {ρ : Operand → Value} {w : World} {t t' : TypeId} {k r : Int} (x : Operand) (ho : o.op = .binOp .shl t x (.const (.int .u64 16)) t') (hc : ρ (.const (.int .u64 16)) = .int .u64 16) (hx : ρ x = .int .i64 k) (hr : k * 65536 = r) (hk : 0 ≤ k ∧ k ≤ 4095) : Runs P o ρ w (.int .i64 r) := by
  subst hr
  have hw : IntKind.i64.wrap (k * 65536) = k * 65536 := by
    have h1 := hk.1; have h2 := hk.2
    simp [IntKind.wrap, IntKind.signed, IntKind.bits, IntKind.min, IntKind.max]; omega
  unfold Runs execOp
  simp only [ho, hc, hx]
  simp [go_sem, hw]
theorem w_shl16 {P : Program} {ops : Array Oper} {rest : List Oper} {o : Oper} {a : Act} {Q : Exit → Act → World → Prop} {w : World} {t t' : TypeId} {k r : Int} (x : Operand) (hgd : o.guard = none) (ho : o.op = .binOp .shl t x (.const (.int .u64 16)) t') (hc : a.eval (.const (.int .u64 16)) = .int .u64 16) (hx : a.eval x = .int .i64 k) (hr : k * 65536 = r) (hk : 0 ≤ k ∧ k ≤ 4095)
    (h : wpList P ops Q rest (a.put o.dst (.int .i64 r)) w) : wpList P ops Q (o :: rest) a w := wpList_runs hgd (runs_shl16 x ho hc hx hr hk) h
end Go.Proofs.Ytajkjiegcmpjaaa
