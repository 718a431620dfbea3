/- Whether a number is in a list; whether a block of a name waits; the tip. -/
import Derived.Test.YtdacclcaopmalaaTrB
import Derived.Test.YtdacclcaopmalaaFE
namespace Go.Proofs.Ytdacclcaopmalaa
set_option maxRecDepth 100000
open Go.RowKit

section
variable {P : Program} {ops : Array Oper} {rest : List Oper} {a : Act} {Q : Exit → Act → World → Prop} {w : World} {d : Option Tmp} {ty t : TypeId} {pos : String} {af : Array Edge} {x : Operand} {n : Nat}
theorem at_entry (h : wpList P ops Q (⟨d, .entry x, ty, pos, af, none⟩ :: rest) a w) : wpList P ops Q (⟨d, .entry x, ty, pos, af, none⟩ :: rest) a w := h
theorem at_load0 (h : wpList P ops Q (⟨d, .load t x, ty, pos, af, none⟩ :: rest) a w) : wpList P ops Q (⟨d, .load t x, ty, pos, af, none⟩ :: rest) a w := h
theorem at_field0 (h : wpList P ops Q (⟨d, .fieldAddr t x n, ty, pos, af, none⟩ :: rest) a w) : wpList P ops Q (⟨d, .fieldAddr t x n, ty, pos, af, none⟩ :: rest) a w := h
end
theorem not_mem_take_succ {l : List Int} {k : Nat} {n : Int} (h : n ∉ l.take k) (hk : k < l.length) (hn : l[k] ≠ n) : n ∉ l.take (k + 1) := by
  rw [List.take_add_one, List.getElem?_eq_getElem hk]
  simp only [Option.toList_some, List.mem_append, List.mem_singleton, not_or]
  exact ⟨h, fun e => hn e.symm⟩
set_option maxRecDepth 100000 in
set_option maxHeartbeats 1600000 in
theorem Index_any {w : World} {v : Value} {l : List Int} {n : Int} (h0 : Ints w v l) :
    Calls Try.prog 73 #[v, .int .i64 n] w fun e w' => ∃ r : Int, e = .returned (.int .i64 r) ∧ decide (0 ≤ r) = decide (n ∈ l) ∧ Ext w w' := by
  refine calls_keep ?_
  have hmax : l.length ≤ 9223372036854775807 := by have := h0.len_le; unfold maxLen at this; omega
  replace h0 := hide_ h0
  go_enter Try.func73, Try.ntmps73
  go_wp2_with ((first
    | ((with_reducible refine at_bi ?_); refine i_len _ rfl rfl (v := v) rfl h0.out ?_)
    | fail) <;> (try simp only [Act.put, List.setIfInBounds_toArray, List.set_cons_zero, List.set_cons_succ]))
  go_loopw [8] (fun i wr => ∃ k : Nat, i = .int .i64 k ∧ k ≤ l.length ∧ Hid (n ∉ l.take k) ∧ Ext w wr) (fun i _ => l.length - (RowKit.intOf i).toNat)
  case atStart => exact ⟨0, rfl, Nat.zero_le _, hide_ (by simp), Ext.refl _⟩
  case round =>
    obtain ⟨k, rfl, hk, hnt, hX⟩ := hrel
    by_cases hge : l.length ≤ k
    · obtain rfl : k = l.length := by omega
      have t2 : decide (l.length < l.length) = false := by simp
      rw [List.take_length] at hnt
      clear hge
      go_wp2
      go_ret
      exact Keep.intro ⟨-1, rfl, by rw [decide_eq_false hnt.out]; rfl, hX⟩
    have hlt : k < l.length := by omega
    have t2 : decide (k < l.length) = true := by simpa using hlt
    obtain ⟨x, hx0⟩ : ∃ x, l[k] = x := ⟨_, rfl⟩
    have hx := hide_ hx0
    have hlt' := hide_ hlt
    clear hge
    cases hc : (n == x)
    · have hnt2 := hide_ (not_mem_take_succ hnt.out hlt (by rw [hx0]; intro e; rw [e] at hc; simp at hc))
      clear hx0
      go_wp2_with ((first
        | ((with_reducible refine at_idx ?_); refine i_idx _ _ k rfl rfl rfl (h0.out.ext hX) rfl hlt'.out ?_; intro ad had; rw [hx.out] at had)
        | fail) <;> (try simp only [Act.put, List.setIfInBounds_toArray, List.set_cons_zero, List.set_cons_succ]))
      go_roundw
      case rel => exact ⟨k + 1, by go_num, hlt'.out, hnt2, hX⟩
      case measure => have := hlt'.out; simp [RowKit.intOf]; omega
    · have hin := hide_ (show n ∈ l from by
        have : n = x := by simpa using hc
        rw [this, ← hx0]; exact List.getElem_mem hlt)
      clear hx0
      go_wp2_with ((first
        | ((with_reducible refine at_idx ?_); refine i_idx _ _ k rfl rfl rfl (h0.out.ext hX) rfl hlt'.out ?_; intro ad had; rw [hx.out] at had)
        | fail) <;> (try simp only [Act.put, List.setIfInBounds_toArray, List.set_cons_zero, List.set_cons_succ]))
      go_ret
      exact Keep.intro ⟨(k : Nat), rfl, by rw [decide_eq_true hin.out]; simp, hX⟩
set_option maxRecDepth 100000 in
set_option maxHeartbeats 1600000 in
theorem Contains_any {w : World} {v : Value} {l : List Int} {n : Int} (h0 : Ints w v l) :
    Calls Try.prog 47 #[v, .int .i64 n] w fun e w' => e = .returned (.bool (decide (n ∈ l))) ∧ Ext w w' := by
  refine calls_keep ?_
  replace h0 := hide_ h0
  have hX := Ext.refl w
  obtain ⟨q, hq⟩ : ∃ q, decide (n ∈ l) = q := ⟨_, rfl⟩
  have hq' := hide_ hq
  rw [hq]
  clear hq
  go_enter Try.func47, Try.ntmps47
  go_wp2_with (first
    | (go_at_call 73; refine (Index_any (n := n) (h0.out.ext hX)).mono ?_; rintro e w4 ⟨r, rfl, hr, hx⟩; rw [hq'.out] at hr; replace hX := hX.trans hx; clear hx)
    | fail)
  go_ret
  exact Keep.intro ⟨rfl, hX⟩

theorem has_mem {V : List BlkD} {n : Int} : decide (n ∈ V.map BlkD.name) = TrS.has V n := by
  rw [Bool.eq_iff_iff, TrS.has_iff, decide_eq_true_iff]; simp
set_option maxRecDepth 100000 in
set_option maxHeartbeats 1600000 in
theorem waits_any {G : Nat → Prop} {w : World} {p : Nat} {K V : List BlkD} {n : Int} (h0 : TrW G w p K V) :
    Calls Try.prog 51 #[.pointer (some ⟨p, 0, none⟩), .int .i64 n] w fun e w' => e = .returned (.bool (TrS.has V n)) ∧ Ext w w' := by
  refine calls_keep ?_
  replace h0 := hide_ h0
  have hX := Ext.refl w
  obtain ⟨q, hq⟩ : ∃ q, decide (n ∈ V.map BlkD.name) = q := ⟨_, rfl⟩
  have hq' := hide_ hq
  rw [← has_mem, hq]
  clear hq
  go_enter Try.func51, Try.ntmps51
  go_wp2_with (first
    | (go_at_call 28; refine (Waiting_any (h0.out.ext hX)).mono ?_; rintro e w4 ⟨v1, rfl, o1, hx⟩; replace o1 := o1.ints; replace hX := hX.trans hx; clear hx)
    | (go_at_call 47; refine (Contains_any (n := n) o1).mono ?_; rintro e w4 ⟨rfl, hx⟩; rw [hq'.out]; replace hX := hX.trans hx; clear hx)
    | fail)
  go_ret
  exact Keep.intro ⟨rfl, hX⟩

/-! ### The tip -/
section
variable {ops : Array Oper} {rest : List Oper} {o : Oper} {a : Act} {Q : Exit → Act → World → Prop} {w : World} {g r n cnt : Nat} {D : DataW Value} {left : Go.Lit → Bool}
/-- Of a map's keys the one that comes next is one of its entries. -/
theorem MapF.of_at {kn : List (Int × Value)} (h : MapF D kn) {x : Int} {c : Value} (hat : ∀ z, D.atKey (.int .i64 x) z = .held c) : (x, c) ∈ kn := by
  by_cases hx : ∃ q ∈ kn, q.1 = x
  · obtain ⟨q, hq, rfl⟩ := hx
    have := (h.hit (v := q.2) hq .nil).symm.trans (hat .nil)
    injection this with this
    rw [← this]; exact hq
  · have := (h.miss (fun q hq e => hx ⟨q, hq, e⟩) .nil).symm.trans (hat .nil)
    cases this
/-- for k, v := range m -/
theorem w_mrange (x : Operand) (hgd : o.guard = none) (ho : o.op = Op.range 80 x) (hx : a.eval x = .map (some g)) (hown : w.ownsMap Try.prog 3 tok g n D)
    (k : ∀ r w', w.heap.size ≤ r → Ext w w' → w'.ranges Try.prog 3 tok g r n D (Maps.has D) (Maps.size D) → wpList Try.prog ops Q rest (a.put o.dst (.pointer (some ⟨r, 0, none⟩))) w') : wpList Try.prog ops Q (o :: rest) a w :=
  wpList_range_own w hgd x _ ho 3 95 (Maps.int_keyed Try.underlying3) Try.underlying80 tok g n D hx hown fun w' h1 h2 h3 =>
    k _ w' (Nat.le_refl _) ⟨h2.os, h2.tape, h2.output, h2.size, fun i hi => h2.block i hi (by simp)⟩ h1
theorem w_mnext (x : Operand) {kn : List (Int × Value)} (hgd : o.guard = none) (ho : o.op = Op.next x false) (hx : a.eval x = .pointer (some ⟨r, 0, none⟩)) (h : w.ranges Try.prog 3 tok g r n D left cnt) (hF : MapF D kn)
    (done : (∀ x, left (.int .i64 x) = false) → wpList Try.prog ops Q rest (a.put o.dst (.tuple #[.bool false])) w)
    (more : ∀ (x : Int) (c : Value) (w' : World) (cnt' : Nat), (x, c) ∈ kn → left (.int .i64 x) = true → w'.ranges Try.prog 3 tok g r n D (fun z => left z && !z.sameKey (.int .i64 x)) cnt' → cnt' < cnt → Mod (fun k => k = r) w w' →
      (Instr.entry (.pointer (some ⟨r, 0, none⟩))).run Try.prog w' = .ok (.tuple #[.int .i64 x, c]) w' → wpList Try.prog ops Q rest (a.put o.dst (.tuple #[.bool true, .int .i64 x, c])) w') : wpList Try.prog ops Q (o :: rest) a w := by
  refine wpList_next_ranges w hgd x ho 3 (Maps.int_keyed Try.underlying3) tok (Value.int .i64) (id : Value → Value) (fun key kl hk => ?_) (fun v y _ => ⟨v, rfl⟩) g r n D left cnt hx h (fun _ hl => done fun x => hl _) ?_
  · obtain ⟨x, hx, _⟩ := Maps.keyOf_i64 Try.underlying3 hk
    exact ⟨x, hx⟩
  · intro x c kl y w' cnt' hkey hlk hR hat hrg hlt hgr hsz hen
    obtain ⟨x', e1, rfl, _⟩ := Maps.keyOf_i64 Try.underlying3 hkey
    obtain rfl : x = x' := encZ_inj e1
    have e2 : y.1 = .held c := by
      have : tok c = some y := hR
      simp only [tok, Option.some.injEq] at this
      rw [← this]
    refine more x c w' cnt' (hF.of_at fun z => by rw [hat z, e2]) hlk hrg hlt ⟨hgr.os, hgr.tape, hgr.output, hgr.size, fun k hk hn => hgr.block k hk fun e => hn (by injection e with e)⟩ hen
theorem w_mentry (x : Operand) {c d : Value} (hgd : o.guard = none) (ho : o.op = Op.entry x) (hx : a.eval x = .pointer (some ⟨r, 0, none⟩)) (hen : (Instr.entry (.pointer (some ⟨r, 0, none⟩))).run Try.prog w = .ok (.tuple #[c, d]) w)
    (k : wpList Try.prog ops Q rest (a.put o.dst (.tuple #[c, d])) w) : wpList Try.prog ops Q (o :: rest) a w := by
  refine wpList_runs hgd ?_ k
  unfold Runs execOp
  simp [ho, hx, hen]
end
theorem ranges_ext {w w' : World} {g r n cnt : Nat} {D : DataW Value} {left : Go.Lit → Bool} (h : w.ranges Try.prog 3 tok g r n D left cnt) (he : Ext w w') : w'.ranges Try.prog 3 tok g r n D left cnt :=
  h.kept (row := none) ⟨he.os, he.tape, he.output, he.size, fun i hi _ => he.block i hi⟩ (by simp) (by simp)
/-- The best of those that came so far. -/
structure Best (K : List BlkD) (lf : Int → Bool) (t h : Int) : Prop where
  some : (t = 0 ∧ h = 0 ∧ ∀ b ∈ K, lf b.name = true) ∨ ∃ b ∈ K, b.name = t ∧ TrS.height K t = h
  top : ∀ b ∈ K, lf b.name = false → TrS.height K b.name < h ∨ TrS.height K b.name = h ∧ t ≤ b.name
section
variable {K : List BlkD} {lf : Int → Bool} {t h : Int} {d : BlkD}
theorem Best.fin (hb : Best K lf t h) (hl : ∀ n, lf n = false) : TrS.IsTip K t := by
  rcases hb.some with ⟨rfl, rfl, h3⟩ | ⟨b, hbk, rfl, rfl⟩
  · have : K = [] := by
      cases K with
      | nil => rfl
      | cons x K => have := h3 x (List.mem_cons_self ..); rw [hl] at this; cases this
    subst this
    exact ⟨.inl ⟨rfl, rfl⟩, by simp⟩
  · exact ⟨.inr ⟨b, hbk, rfl⟩, fun c hc => hb.top c hc (hl _)⟩
theorem Best.yes (hb : Best K lf t h) (hd : d ∈ K) (hgt : h < TrS.height K d.name ∨ h = TrS.height K d.name ∧ d.name < t) : Best K (fun n => lf n && !decide (n = d.name)) d.name (TrS.height K d.name) := by
  refine ⟨.inr ⟨d, hd, rfl, rfl⟩, fun b hbk hl => ?_⟩
  simp only [Bool.and_eq_false_iff, Bool.not_eq_false', decide_eq_true_eq] at hl
  rcases hl with hl | hl
  · rcases hb.top b hbk hl with h1 | ⟨h1, h2⟩ <;> omega
  · rw [hl]; exact .inr ⟨rfl, Int.le_refl _⟩
theorem Best.no (hb : Best K lf t h) (hp : 0 < TrS.height K d.name) (hgt : ¬ (h < TrS.height K d.name ∨ h = TrS.height K d.name ∧ d.name < t)) : Best K (fun n => lf n && !decide (n = d.name)) t h := by
  refine ⟨?_, fun b hbk hl => ?_⟩
  · rcases hb.some with ⟨rfl, rfl, h3⟩ | h4
    · exact absurd (.inl hp) hgt
    · exact .inr h4
  · simp only [Bool.and_eq_false_iff, Bool.not_eq_false', decide_eq_true_eq] at hl
    rcases hl with hl | hl
    · exact hb.top b hbk hl
    · rw [hl]; omega
end
theorem mem_kn {X : Nat → Prop} {w : World} {K : List BlkD} {us : List Value} {f : BlkD → Int} {x : Int} {c : Value} (h : (x, c) ∈ (K.zip us).map fun x => (x.1.name, kVal x.1 x.2 (f x.1))) (ht : ∀ x ∈ K.zip us, TxX X w x.2 x.1) :
    ∃ d u, d ∈ K ∧ x = d.name ∧ c = kVal d u (f d) ∧ u.oneCell' = true := by
  obtain ⟨⟨d, u⟩, hz, he⟩ := List.mem_map.1 h
  injection he with e1 e2
  exact ⟨d, u, (List.of_mem_zip hz).1, e1.symm, e2.symm, (ht _ hz).1.one'⟩

set_option maxRecDepth 100000 in
set_option maxHeartbeats 3200000 in
theorem Tip_any {G : Nat → Prop} {w : World} {p : Nat} {K V : List BlkD} (h0 : TrW G w p K V) :
    Calls Try.prog 32 #[.pointer (some ⟨p, 0, none⟩)] w fun e w' => e = .returned (.int .i64 (TrS.tip K)) ∧ Ext w w' := by
  refine calls_keep ?_
  obtain ⟨X, g, v, h1, _⟩ := h0
  have f1 := h1.obj
  obtain ⟨n, D, us, h2, h3, h4, h5, h6⟩ := h1.map
  have uq := hide_ h1.fit.uq
  have hkn := hide_ (fun x c h => mem_kn (f := fun d => TrS.height K d.name) (x := x) (c := c) h h6)
  have hF := hide_ h5
  have hhas := hide_ (show Best K (fun n => Maps.has D (.int .i64 n)) 0 0 from ⟨.inl ⟨rfl, rfl, fun b hb => by
    obtain ⟨u, hu⟩ := mem_zip_of h4 hb
    rw [h5.has, List.any_eq_true]
    exact ⟨_, List.mem_map.2 ⟨_, hu, rfl⟩, by simp⟩⟩, fun b hb hf => by
    obtain ⟨u, hu⟩ := mem_zip_of h4 hb
    rw [h5.has, List.any_eq_false] at hf
    exact absurd (by simp) (hf _ (List.mem_map.2 ⟨_, hu, rfl⟩))⟩)
  replace h3 := hide_ h3
  clear h1 h5 h6
  obtain ⟨kn, hkne⟩ : ∃ kn, (K.zip us).map (fun x => (x.1.name, kVal x.1 x.2 (TrS.height K x.1.name))) = kn := ⟨_, rfl⟩
  rw [hkne] at hkn hF
  clear hkne
  go_enter Try.func32, Try.ntmps32
  go_wp2_with ((first
    | (refine w_mrange _ rfl rfl rfl h3.out ?_; intro r w1 hr0 hX hrg)
    | ((with_reducible refine at_field ?_); (try refine w_yes _ _ _ rfl rfl rfl ?_); refine w_field Try.stTree _ _ _ rfl rfl rfl (by omega) ?_)
    | ((with_reducible refine at_load ?_); (try refine w_yes _ _ _ rfl rfl rfl ?_); refine w_fload _ rfl rfl rfl f1 rfl (agg_of (by kernel_rfl)) ?_)
    | fail) <;> (try simp only [Act.put, List.setIfInBounds_toArray, List.set_cons_zero, List.set_cons_succ]))
  go_loopw [3, 4] (fun u3 u4 wr => ∃ (t h : Int) (left : Go.Lit → Bool) (cnt : Nat), u3 = .int .i64 t ∧ u4 = .int .i64 h ∧ wr.ranges Try.prog 3 tok g r n D left cnt ∧ Hid (Best K (fun n => left (.int .i64 n)) t h) ∧ Ext w wr) (fun _ _ wr => wr.rangeLeft g r)
  case atStart => exact ⟨0, 0, _, _, rfl, rfl, hrg, hhas, hX⟩
  case round =>
    clear hX hhas
    obtain ⟨t, h, left, cnt, rfl, rfl, hrg, hb, hX⟩ := hrel
    go_wp2_with (first
      | (refine w_mnext _ rfl rfl rfl hrg hF.out ?_ ?_)
      | fail)
    · intro hl0
      have hfin := hide_ ((hb.out.fin hl0).uniq uq.out.tip)
      go_wp2
      go_ret
      exact Keep.intro ⟨by rw [← hfin.out]; rfl, hX⟩
    · intro x c wn cnt' hmem hlf hrg2 hlt hmn hen
      obtain ⟨d, u, hd, rfl, rfl, hone1⟩ := hkn.out _ _ hmem
      replace hX := hmn.after hX (fun i hi => by subst hi; exact hr0)
      have hone : ∀ y ∈ bRow d u ++ [.int .i64 (TrS.height K d.name)], y.oneCell' = true := by simp [bRow]; exact ⟨rfl, rfl, rfl, rfl, hone1, rfl⟩
      have hpos := hide_ (uq.out.height_pos hd)
      have hy := hide_ (fun hgt => hb.out.yes hd hgt)
      have hno := hide_ (fun hgt => hb.out.no hpos.out hgt)
      obtain ⟨hh, hhe⟩ : ∃ hh, TrS.height K d.name = hh := ⟨_, rfl⟩
      rw [hhe] at hone hy hno hpos hen
      have e1 : (fun n => left (.int .i64 n) && !decide (n = d.name)) = fun n => left (.int .i64 n) && !(Go.Lit.int .i64 n).sameKey (.int .i64 d.name) := by funext n; rw [sameKey_int]
      rw [e1] at hy hno
      clear e1 hhe
      have hlt' := hide_ hlt
      have hrl := hide_ hrg.left_eq
      have hen' := hide_ hen
      clear hmem hlf hmn hb hrg hlt hd hen
      cases c1 : decide (h < hh)
      · cases c2 : (hh == h)
        · have hy2 := hide_ (hno.out (by rw [decide_eq_false_iff_not] at c1; have c2' : hh ≠ h := by simpa using c2
                                         omega))
          clear hy hno
          go_wp2_with ((first
            | ((with_reducible refine at_entry ?_); refine w_mentry _ rfl rfl rfl hen'.out ?_)
            | ((with_reducible refine at_alloc ?_); refine w_allocN Try.stKn rfl rfl ?_; intro g2 w2 hg2 hx2 f2)
            | ((with_reducible refine at_store ?_); refine w_astoreN Try.stKn _ _ (us := bRow d u ++ [.int .i64 hh]) rfl rfl rfl rfl rfl f2 rfl rfl hone ?_; intro w3 hm3 f3; replace f2 : Fs w3 g2 (bRow d u ++ [.int .i64 hh]) := f3; replace hx2 := hm3.after hx2 (fun i hi => by subst hi; exact hg2); replace hX := hX.trans hx2; replace hrg2 := ranges_ext hrg2 hx2; clear hx2 hm3 f3)
            | ((with_reducible refine at_field ?_); (try refine w_yes _ _ _ rfl rfl rfl ?_); refine w_fieldN (i := 1) (off := 5) (by kernel_rfl) _ _ rfl rfl rfl ?_)
            | ((with_reducible refine at_load ?_); (try refine w_yes _ _ _ rfl rfl rfl ?_); refine w_fload _ rfl rfl rfl f2 rfl (agg_of (by kernel_rfl)) ?_)
            | fail) <;> (try simp only [Act.put, List.setIfInBounds_toArray, List.set_cons_zero, List.set_cons_succ]))
          go_roundw
          case rel => exact ⟨_, _, _, _, rfl, rfl, hrg2, hy2, hX⟩
          case measure => rw [hrg2.left_eq, hrl.out]; exact hlt'.out
        · cases c3 : decide (d.name < t)
          · have hy2 := hide_ (hno.out (by rw [decide_eq_false_iff_not] at c1 c3; omega))
            clear hy hno
            go_wp2_with ((first
              | ((with_reducible refine at_entry ?_); refine w_mentry _ rfl rfl rfl hen'.out ?_)
              | ((with_reducible refine at_alloc ?_); refine w_allocN Try.stKn rfl rfl ?_; intro g2 w2 hg2 hx2 f2)
              | ((with_reducible refine at_store ?_); refine w_astoreN Try.stKn _ _ (us := bRow d u ++ [.int .i64 hh]) rfl rfl rfl rfl rfl f2 rfl rfl hone ?_; intro w3 hm3 f3; replace f2 : Fs w3 g2 (bRow d u ++ [.int .i64 hh]) := f3; replace hx2 := hm3.after hx2 (fun i hi => by subst hi; exact hg2); replace hX := hX.trans hx2; replace hrg2 := ranges_ext hrg2 hx2; clear hx2 hm3 f3)
              | ((with_reducible refine at_field ?_); (try refine w_yes _ _ _ rfl rfl rfl ?_); refine w_fieldN (i := 1) (off := 5) (by kernel_rfl) _ _ rfl rfl rfl ?_)
              | ((with_reducible refine at_load ?_); (try refine w_yes _ _ _ rfl rfl rfl ?_); refine w_fload _ rfl rfl rfl f2 rfl (agg_of (by kernel_rfl)) ?_)
              | fail) <;> (try simp only [Act.put, List.setIfInBounds_toArray, List.set_cons_zero, List.set_cons_succ]))
            go_roundw
            case rel => exact ⟨_, _, _, _, rfl, rfl, hrg2, hy2, hX⟩
            case measure => rw [hrg2.left_eq, hrl.out]; exact hlt'.out
          · have hy2 := hide_ (hy.out (.inr ⟨by have : hh = h := by simpa using c2
                                                omega, of_decide_eq_true c3⟩))
            clear hy hno
            go_wp2_with ((first
              | ((with_reducible refine at_entry ?_); refine w_mentry _ rfl rfl rfl hen'.out ?_)
              | ((with_reducible refine at_alloc ?_); refine w_allocN Try.stKn rfl rfl ?_; intro g2 w2 hg2 hx2 f2)
              | ((with_reducible refine at_store ?_); refine w_astoreN Try.stKn _ _ (us := bRow d u ++ [.int .i64 hh]) rfl rfl rfl rfl rfl f2 rfl rfl hone ?_; intro w3 hm3 f3; replace f2 : Fs w3 g2 (bRow d u ++ [.int .i64 hh]) := f3; replace hx2 := hm3.after hx2 (fun i hi => by subst hi; exact hg2); replace hX := hX.trans hx2; replace hrg2 := ranges_ext hrg2 hx2; clear hx2 hm3 f3)
              | ((with_reducible refine at_field ?_); (try refine w_yes _ _ _ rfl rfl rfl ?_); refine w_fieldN (i := 1) (off := 5) (by kernel_rfl) _ _ rfl rfl rfl ?_)
              | ((with_reducible refine at_load ?_); (try refine w_yes _ _ _ rfl rfl rfl ?_); refine w_fload _ rfl rfl rfl f2 rfl (agg_of (by kernel_rfl)) ?_)
              | fail) <;> (try simp only [Act.put, List.setIfInBounds_toArray, List.set_cons_zero, List.set_cons_succ]))
            refine wp_region_phx (by kernel_rfl) ?_; intro wd hxd; have Hf := f2.ext hxd
            refine Ph.rest 0 5 (by kernel_rfl) ?_
            refine LinL.step (s := (.val (.int .i64 d.name))) [(5, none)] rfl (by kernel_rfl) (op_out 5 (.int .i64 d.name) rfl (.inl rfl) rfl) ?_
            refine LinL.step (s := (.val (.pointer (some ⟨g2, 5, none⟩)))) [(6, none)] rfl (by kernel_rfl) (op_runs rfl fun σ w' hx hg => ⟨_, runs_fieldN (ρ := σ.eval) (w := w') (i := 1) (off := 5) (by kernel_rfl) (.tmp 6) g2 rfl hg.1, rfl⟩) ?_
            refine LinL.step (s := (.val (.int .i64 hh))) [(33, some 0)] rfl (by kernel_rfl) (op_runs rfl fun σ w' hx hg => ⟨_, runs_fload (ρ := σ.eval) (w := w') (.tmp 33) rfl hg.1 (agg_of (by kernel_rfl) _) (Hf.ext hx) rfl, rfl⟩) ?_
            refine LinL.step (s := (.val (.int .i64 d.name))) [(32, some 2)] rfl (by kernel_rfl) (op_copy 32 2 _ rfl (.inr rfl) rfl) ?_
            refine LinL.step (s := (.val (.int .i64 hh))) [(34, some 1)] rfl (by kernel_rfl) (op_copy 34 1 _ rfl (.inr rfl) rfl) ?_
            intro wN hxN
            simp only [Fin', List.reverse_cons, List.reverse_nil, List.nil_append, List.cons_append, List.drop_zero, List.take_succ_cons, List.take_zero]
            simp only [Act.put, List.setIfInBounds_toArray, List.set_cons_zero, List.set_cons_succ]
            replace hX := hX.trans (hxd.trans hxN); replace hrg2 := ranges_ext hrg2 (hxd.trans hxN)
            clear hxd hxN Hf f2
            go_wp2
            go_roundw
            case rel => exact ⟨_, _, _, _, rfl, rfl, hrg2, hy2, hX⟩
            case measure => rw [hrg2.left_eq, hrl.out]; exact hlt'.out
      · have hy2 := hide_ (hy.out (.inl (of_decide_eq_true c1)))
        clear hy hno
        go_wp2_with ((first
          | ((with_reducible refine at_entry ?_); refine w_mentry _ rfl rfl rfl hen'.out ?_)
          | ((with_reducible refine at_alloc ?_); refine w_allocN Try.stKn rfl rfl ?_; intro g2 w2 hg2 hx2 f2)
          | ((with_reducible refine at_store ?_); refine w_astoreN Try.stKn _ _ (us := bRow d u ++ [.int .i64 hh]) rfl rfl rfl rfl rfl f2 rfl rfl hone ?_; intro w3 hm3 f3; replace f2 : Fs w3 g2 (bRow d u ++ [.int .i64 hh]) := f3; replace hx2 := hm3.after hx2 (fun i hi => by subst hi; exact hg2); replace hX := hX.trans hx2; replace hrg2 := ranges_ext hrg2 hx2; clear hx2 hm3 f3)
          | ((with_reducible refine at_field0 ?_); refine w_fieldN (i := 1) (off := 5) (by kernel_rfl) _ _ rfl rfl rfl ?_)
          | ((with_reducible refine at_load0 ?_); refine w_fload _ rfl rfl rfl f2 rfl (agg_of (by kernel_rfl)) ?_)
          | fail) <;> (try simp only [Act.put, List.setIfInBounds_toArray, List.set_cons_zero, List.set_cons_succ]))
        refine wp_region_phx (by kernel_rfl) ?_; intro wd hxd; have Hf := f2.ext hxd
        refine Ph.rest 0 5 (by kernel_rfl) ?_
        refine LinL.step (s := (.val (.int .i64 d.name))) [(5, none)] rfl (by kernel_rfl) (op_out 5 (.int .i64 d.name) rfl (.inl rfl) rfl) ?_
        refine LinL.step (s := (.val (.pointer (some ⟨g2, 5, none⟩)))) [(6, none)] rfl (by kernel_rfl) (op_runs rfl fun σ w' hx hg => ⟨_, runs_fieldN (ρ := σ.eval) (w := w') (i := 1) (off := 5) (by kernel_rfl) (.tmp 6) g2 rfl hg.1, rfl⟩) ?_
        refine LinL.step (s := (.val (.int .i64 hh))) [(33, some 0)] rfl (by kernel_rfl) (op_runs rfl fun σ w' hx hg => ⟨_, runs_fload (ρ := σ.eval) (w := w') (.tmp 33) rfl hg.1 (agg_of (by kernel_rfl) _) (Hf.ext hx) rfl, rfl⟩) ?_
        refine LinL.step (s := (.val (.int .i64 d.name))) [(32, some 2)] rfl (by kernel_rfl) (op_copy 32 2 _ rfl (.inr rfl) rfl) ?_
        refine LinL.step (s := (.val (.int .i64 hh))) [(34, some 1)] rfl (by kernel_rfl) (op_copy 34 1 _ rfl (.inr rfl) rfl) ?_
        intro wN hxN
        simp only [Fin', List.reverse_cons, List.reverse_nil, List.nil_append, List.cons_append, List.drop_zero, List.take_succ_cons, List.take_zero]
        simp only [Act.put, List.setIfInBounds_toArray, List.set_cons_zero, List.set_cons_succ]
        replace hX := hX.trans (hxd.trans hxN); replace hrg2 := ranges_ext hrg2 (hxd.trans hxN)
        clear hxd hxN Hf f2
        go_wp2
        go_roundw
        case rel => exact ⟨_, _, _, _, rfl, rfl, hrg2, hy2, hX⟩
        case measure => rw [hrg2.left_eq, hrl.out]; exact hlt'.out
end Go.Proofs.Ytdacclcaopmalaa
