/- Whether a number is in a list; whether a block of a name waits; the tip. · The contracts of the library on maps.Keys and Reverse, laid over this program. · Numbers sorted, turned round, each once; all that are known, rising. · Those that are waited for; the way to a block. · The way to a block. · So many steps back; what two ways have in common. -/
import Derived.Test.YtdoeoncmhaihbaaTRA
import Derived.Test.YtdoeoncmhaihbaaFE
import Derived.Test.YtdoeoncmhaihbaaCont
import Derived.Test.YtdoeoncmhaihbaaSHG
import Derived.Test.YtdoeoncmhaihbaaMapO
import Derived.Shelf.SlIterI.Nil
import Derived.Shelf.SlicesG.Reverse
namespace Go.Proofs.Ytdoeoncmhaihbaa
set_option maxRecDepth 100000
open Go.RowKit

section
variable {P : Program} {ops : Array Oper} {rest : List Oper} {a : Act} {Q : Exit → Act → World → Prop} {w : World} {d : Option Tmp} {ty t : TypeId} {pos : String} {af : Array Edge} {x : Operand} {n : Nat}
theorem at_entry (h : wpList P ops Q (⟨d, .entry x, ty, pos, af, none⟩ :: rest) a w) : wpList P ops Q (⟨d, .entry x, ty, pos, af, none⟩ :: rest) a w := h
theorem at_load0 (h : wpList P ops Q (⟨d, .load t x, ty, pos, af, none⟩ :: rest) a w) : wpList P ops Q (⟨d, .load t x, ty, pos, af, none⟩ :: rest) a w := h
theorem at_field0 (h : wpList P ops Q (⟨d, .fieldAddr t x n, ty, pos, af, none⟩ :: rest) a w) : wpList P ops Q (⟨d, .fieldAddr t x n, ty, pos, af, none⟩ :: rest) a w := h
end
theorem has_mem {V : List BlkD} {n : Int} : decide (n ∈ V.map BlkD.name) = TrS.has V n := by
  rw [Bool.eq_iff_iff, TrS.has_iff, decide_eq_true_iff]; simp
set_option maxRecDepth 100000 in
set_option maxHeartbeats 1600000 in
theorem waits_any {G : Nat → Prop} {w : World} {p : Nat} {K V : List BlkD} {n : Int} (h0 : TrW G w p K V) :
    Calls Try.prog 52 #[.pointer (some ⟨p, 0, none⟩), .int .i64 n] w fun e w' => e = .returned (.bool (TrS.has V n)) ∧ Ext w w' := by
  refine calls_keep ?_
  replace h0 := hide_ h0
  have hX := Ext.refl w
  obtain ⟨q, hq⟩ : ∃ q, decide (n ∈ V.map BlkD.name) = q := ⟨_, rfl⟩
  have hq' := hide_ hq
  rw [← has_mem, hq]
  clear hq
  go_enter Try.func52, Try.ntmps52
  go_wp2_with (first
    | (go_at_call 68; refine (Waiting_any (h0.out.ext hX)).mono ?_; rintro e w4 ⟨v1, rfl, o1, hx⟩; replace o1 := o1.ints; replace hX := hX.trans hx; clear hx)
    | (go_at_call 67; refine (Contains_any (n := n) o1).mono ?_; rintro e w4 ⟨rfl, hx⟩; rw [hq'.out]; replace hX := hX.trans hx; clear hx)
    | fail)
  go_ret
  exact Keep.intro ⟨rfl, hX⟩

/-! ### The tip -/
section
variable {ops : Array Oper} {rest : List Oper} {o : Oper} {a : Act} {Q : Exit → Act → World → Prop} {w : World} {g r n cnt : Nat} {D : DataW Value} {left : Go.Lit → Bool}
/-- Of a map's keys the one that comes next is one of its entries. -/
theorem MapF.of_at {kn : List (Int × Value)} (h : MapF D kn) {x : Int} {c : Value} (hat : ∀ z, D.atKey (.int .i64 x) z = .held c) : (x, c) ∈ kn := by
  by_cases hx : ∃ q ∈ kn, q.1 = x
  · obtain ⟨q, hq, rfl⟩ := hx
    have := (h.hit (v := q.2) hq .nil).symm.trans (hat .nil)
    injection this with this
    rw [← this]; exact hq
  · have := (h.miss (fun q hq e => hx ⟨q, hq, e⟩) .nil).symm.trans (hat .nil)
    cases this
/-- for k, v := range m -/
theorem w_mrange (x : Operand) (hgd : o.guard = none) (ho : o.op = Op.range 74 x) (hx : a.eval x = .map (some g)) (hown : w.ownsMap Try.prog 3 tok g n D)
    (k : ∀ r w', w.heap.size ≤ r → Ext w w' → w'.ranges Try.prog 3 tok g r n D (Maps.has D) (Maps.size D) → wpList Try.prog ops Q rest (a.put o.dst (.pointer (some ⟨r, 0, none⟩))) w') : wpList Try.prog ops Q (o :: rest) a w :=
  wpList_range_own w hgd x _ ho 3 83 (Maps.int_keyed Try.underlying3) Try.underlying74 tok g n D hx hown fun w' h1 h2 h3 =>
    k _ w' (Nat.le_refl _) ⟨h2.os, h2.tape, h2.output, h2.size, fun i hi => h2.block i hi (by simp)⟩ h1
theorem w_mnext (x : Operand) {kn : List (Int × Value)} (hgd : o.guard = none) (ho : o.op = Op.next x false) (hx : a.eval x = .pointer (some ⟨r, 0, none⟩)) (h : w.ranges Try.prog 3 tok g r n D left cnt) (hF : MapF D kn)
    (done : (∀ x, left (.int .i64 x) = false) → wpList Try.prog ops Q rest (a.put o.dst (.tuple #[.bool false])) w)
    (more : ∀ (x : Int) (c : Value) (w' : World) (cnt' : Nat), (x, c) ∈ kn → left (.int .i64 x) = true → w'.ranges Try.prog 3 tok g r n D (fun z => left z && !z.sameKey (.int .i64 x)) cnt' → cnt' < cnt → Mod (fun k => k = r) w w' →
      (Instr.entry (.pointer (some ⟨r, 0, none⟩))).run Try.prog w' = .ok (.tuple #[.int .i64 x, c]) w' → wpList Try.prog ops Q rest (a.put o.dst (.tuple #[.bool true, .int .i64 x, c])) w') : wpList Try.prog ops Q (o :: rest) a w := by
  refine wpList_next_ranges w hgd x ho 3 (Maps.int_keyed Try.underlying3) tok (Value.int .i64) (id : Value → Value) (fun key kl hk => ?_) (fun v y _ => ⟨v, rfl⟩) g r n D left cnt hx h (fun _ hl => done fun x => hl _) ?_
  · obtain ⟨x, hx, _⟩ := Maps.keyOf_i64 Try.underlying3 hk
    exact ⟨x, hx⟩
  · intro x c kl y w' cnt' hkey hlk hR hat hrg hlt hgr hsz hen
    obtain ⟨x', e1, rfl, _⟩ := Maps.keyOf_i64 Try.underlying3 hkey
    obtain rfl : x = x' := encZ_inj e1
    have e2 : y.1 = .held c := by
      have : tok c = some y := hR
      simp only [tok, Option.some.injEq] at this
      rw [← this]
    refine more x c w' cnt' (hF.of_at fun z => by rw [hat z, e2]) hlk hrg hlt ⟨hgr.os, hgr.tape, hgr.output, hgr.size, fun k hk hn => hgr.block k hk fun e => hn (by injection e with e)⟩ hen
theorem w_mentry (x : Operand) {c d : Value} (hgd : o.guard = none) (ho : o.op = Op.entry x) (hx : a.eval x = .pointer (some ⟨r, 0, none⟩)) (hen : (Instr.entry (.pointer (some ⟨r, 0, none⟩))).run Try.prog w = .ok (.tuple #[c, d]) w)
    (k : wpList Try.prog ops Q rest (a.put o.dst (.tuple #[c, d])) w) : wpList Try.prog ops Q (o :: rest) a w := by
  refine wpList_runs hgd ?_ k
  unfold Runs execOp
  simp [ho, hx, hen]
end
theorem ranges_ext {w w' : World} {g r n cnt : Nat} {D : DataW Value} {left : Go.Lit → Bool} (h : w.ranges Try.prog 3 tok g r n D left cnt) (he : Ext w w') : w'.ranges Try.prog 3 tok g r n D left cnt :=
  h.kept (row := none) ⟨he.os, he.tape, he.output, he.size, fun i hi _ => he.block i hi⟩ (by simp) (by simp)
/-- The best of those that came so far. -/
structure Best (K : List BlkD) (lf : Int → Bool) (t h : Int) : Prop where
  some : (t = 0 ∧ h = 0 ∧ ∀ b ∈ K, lf b.name = true) ∨ ∃ b ∈ K, b.name = t ∧ TrS.height K t = h
  top : ∀ b ∈ K, lf b.name = false → TrS.height K b.name < h ∨ TrS.height K b.name = h ∧ t ≤ b.name
section
variable {K : List BlkD} {lf : Int → Bool} {t h : Int} {d : BlkD}
theorem Best.fin (hb : Best K lf t h) (hl : ∀ n, lf n = false) : TrS.IsTip K t := by
  rcases hb.some with ⟨rfl, rfl, h3⟩ | ⟨b, hbk, rfl, rfl⟩
  · have : K = [] := by
      cases K with
      | nil => rfl
      | cons x K => have := h3 x (List.mem_cons_self ..); rw [hl] at this; cases this
    subst this
    exact ⟨.inl ⟨rfl, rfl⟩, by simp⟩
  · exact ⟨.inr ⟨b, hbk, rfl⟩, fun c hc => hb.top c hc (hl _)⟩
theorem Best.yes (hb : Best K lf t h) (hd : d ∈ K) (hgt : h < TrS.height K d.name ∨ h = TrS.height K d.name ∧ d.name < t) : Best K (fun n => lf n && !decide (n = d.name)) d.name (TrS.height K d.name) := by
  refine ⟨.inr ⟨d, hd, rfl, rfl⟩, fun b hbk hl => ?_⟩
  simp only [Bool.and_eq_false_iff, Bool.not_eq_false', decide_eq_true_eq] at hl
  rcases hl with hl | hl
  · rcases hb.top b hbk hl with h1 | ⟨h1, h2⟩ <;> omega
  · rw [hl]; exact .inr ⟨rfl, Int.le_refl _⟩
theorem Best.no (hb : Best K lf t h) (hp : 0 < TrS.height K d.name) (hgt : ¬ (h < TrS.height K d.name ∨ h = TrS.height K d.name ∧ d.name < t)) : Best K (fun n => lf n && !decide (n = d.name)) t h := by
  refine ⟨?_, fun b hbk hl => ?_⟩
  · rcases hb.some with ⟨rfl, rfl, h3⟩ | h4
    · exact absurd (.inl hp) hgt
    · exact .inr h4
  · simp only [Bool.and_eq_false_iff, Bool.not_eq_false', decide_eq_true_eq] at hl
    rcases hl with hl | hl
    · exact hb.top b hbk hl
    · rw [hl]; omega
end
theorem mem_kn {X : Nat → Prop} {w : World} {K : List BlkD} {us : List Value} {f : BlkD → Int} {x : Int} {c : Value} (h : (x, c) ∈ (K.zip us).map fun x => (x.1.name, kVal x.1 x.2 (f x.1))) (ht : ∀ x ∈ K.zip us, TxX X w x.2 x.1) :
    ∃ d u, d ∈ K ∧ x = d.name ∧ c = kVal d u (f d) ∧ u.oneCell' = true := by
  obtain ⟨⟨d, u⟩, hz, he⟩ := List.mem_map.1 h
  injection he with e1 e2
  exact ⟨d, u, (List.of_mem_zip hz).1, e1.symm, e2.symm, (ht _ hz).1.one'⟩

set_option maxRecDepth 100000 in
set_option maxHeartbeats 3200000 in
theorem Tip_any {G : Nat → Prop} {w : World} {p : Nat} {K V : List BlkD} (h0 : TrW G w p K V) :
    Calls Try.prog 40 #[.pointer (some ⟨p, 0, none⟩)] w fun e w' => e = .returned (.int .i64 (TrS.tip K)) ∧ Ext w w' := by
  refine calls_keep ?_
  obtain ⟨X, g, v, h1, _⟩ := h0
  have f1 := h1.obj
  obtain ⟨n, D, us, h2, h3, h4, h5, h6⟩ := h1.map
  have uq := hide_ h1.fit.uq
  have hkn := hide_ (fun x c h => mem_kn (f := fun d => TrS.height K d.name) (x := x) (c := c) h h6)
  have hF := hide_ h5
  have hhas := hide_ (show Best K (fun n => Maps.has D (.int .i64 n)) 0 0 from ⟨.inl ⟨rfl, rfl, fun b hb => by
    obtain ⟨u, hu⟩ := mem_zip_of h4 hb
    rw [h5.has, List.any_eq_true]
    exact ⟨_, List.mem_map.2 ⟨_, hu, rfl⟩, by simp⟩⟩, fun b hb hf => by
    obtain ⟨u, hu⟩ := mem_zip_of h4 hb
    rw [h5.has, List.any_eq_false] at hf
    exact absurd (by simp) (hf _ (List.mem_map.2 ⟨_, hu, rfl⟩))⟩)
  replace h3 := hide_ h3
  clear h1 h5 h6
  obtain ⟨kn, hkne⟩ : ∃ kn, (K.zip us).map (fun x => (x.1.name, kVal x.1 x.2 (TrS.height K x.1.name))) = kn := ⟨_, rfl⟩
  rw [hkne] at hkn hF
  clear hkne
  go_enter Try.func40, Try.ntmps40
  go_wp2_with ((first
    | (refine w_mrange _ rfl rfl rfl h3.out ?_; intro r w1 hr0 hX hrg)
    | ((with_reducible refine at_field ?_); (try refine w_yes _ _ _ rfl rfl rfl ?_); refine w_field Try.stTree _ _ _ rfl rfl rfl (by omega) ?_)
    | ((with_reducible refine at_load ?_); (try refine w_yes _ _ _ rfl rfl rfl ?_); refine w_fload _ rfl rfl rfl f1 rfl (agg_of (by kernel_rfl)) ?_)
    | fail) <;> (try simp only [Act.put, List.setIfInBounds_toArray, List.set_cons_zero, List.set_cons_succ]))
  go_loopw [3, 4] (fun u3 u4 wr => ∃ (t h : Int) (left : Go.Lit → Bool) (cnt : Nat), u3 = .int .i64 t ∧ u4 = .int .i64 h ∧ wr.ranges Try.prog 3 tok g r n D left cnt ∧ Hid (Best K (fun n => left (.int .i64 n)) t h) ∧ Ext w wr) (fun _ _ wr => wr.rangeLeft g r)
  case atStart => exact ⟨0, 0, _, _, rfl, rfl, hrg, hhas, hX⟩
  case round =>
    clear hX hhas
    obtain ⟨t, h, left, cnt, rfl, rfl, hrg, hb, hX⟩ := hrel
    go_wp2_with (first
      | (refine w_mnext _ rfl rfl rfl hrg hF.out ?_ ?_)
      | fail)
    · intro hl0
      have hfin := hide_ ((hb.out.fin hl0).uniq uq.out.tip)
      go_wp2
      go_ret
      exact Keep.intro ⟨by rw [← hfin.out]; rfl, hX⟩
    · intro x c wn cnt' hmem hlf hrg2 hlt hmn hen
      obtain ⟨d, u, hd, rfl, rfl, hone1⟩ := hkn.out _ _ hmem
      replace hX := hmn.after hX (fun i hi => by subst hi; exact hr0)
      have hone : ∀ y ∈ bRow d u ++ [.int .i64 (TrS.height K d.name)], y.oneCell' = true := by simp [bRow]; exact ⟨rfl, rfl, rfl, rfl, hone1, rfl⟩
      have hpos := hide_ (uq.out.height_pos hd)
      have hy := hide_ (fun hgt => hb.out.yes hd hgt)
      have hno := hide_ (fun hgt => hb.out.no hpos.out hgt)
      obtain ⟨hh, hhe⟩ : ∃ hh, TrS.height K d.name = hh := ⟨_, rfl⟩
      rw [hhe] at hone hy hno hpos hen
      have e1 : (fun n => left (.int .i64 n) && !decide (n = d.name)) = fun n => left (.int .i64 n) && !(Go.Lit.int .i64 n).sameKey (.int .i64 d.name) := by funext n; rw [sameKey_int]
      rw [e1] at hy hno
      clear e1 hhe
      have hlt' := hide_ hlt
      have hrl := hide_ hrg.left_eq
      have hen' := hide_ hen
      clear hmem hlf hmn hb hrg hlt hd hen
      cases c1 : decide (h < hh)
      · cases c2 : (hh == h)
        · have hy2 := hide_ (hno.out (by rw [decide_eq_false_iff_not] at c1; have c2' : hh ≠ h := by simpa using c2
                                         omega))
          clear hy hno
          go_wp2_with ((first
            | ((with_reducible refine at_entry ?_); refine w_mentry _ rfl rfl rfl hen'.out ?_)
            | ((with_reducible refine at_alloc ?_); refine w_allocN Try.stKn rfl rfl ?_; intro g2 w2 hg2 hx2 f2)
            | ((with_reducible refine at_store ?_); refine w_astoreN Try.stKn _ _ (us := bRow d u ++ [.int .i64 hh]) rfl rfl rfl rfl rfl f2 rfl rfl hone ?_; intro w3 hm3 f3; replace f2 : Fs w3 g2 (bRow d u ++ [.int .i64 hh]) := f3; replace hx2 := hm3.after hx2 (fun i hi => by subst hi; exact hg2); replace hX := hX.trans hx2; replace hrg2 := ranges_ext hrg2 hx2; clear hx2 hm3 f3)
            | ((with_reducible refine at_field ?_); (try refine w_yes _ _ _ rfl rfl rfl ?_); refine w_fieldN (i := 1) (off := 5) (by kernel_rfl) _ _ rfl rfl rfl ?_)
            | ((with_reducible refine at_load ?_); (try refine w_yes _ _ _ rfl rfl rfl ?_); refine w_fload _ rfl rfl rfl f2 rfl (agg_of (by kernel_rfl)) ?_)
            | fail) <;> (try simp only [Act.put, List.setIfInBounds_toArray, List.set_cons_zero, List.set_cons_succ]))
          go_roundw
          case rel => exact ⟨_, _, _, _, rfl, rfl, hrg2, hy2, hX⟩
          case measure => rw [hrg2.left_eq, hrl.out]; exact hlt'.out
        · cases c3 : decide (d.name < t)
          · have hy2 := hide_ (hno.out (by rw [decide_eq_false_iff_not] at c1 c3; omega))
            clear hy hno
            go_wp2_with ((first
              | ((with_reducible refine at_entry ?_); refine w_mentry _ rfl rfl rfl hen'.out ?_)
              | ((with_reducible refine at_alloc ?_); refine w_allocN Try.stKn rfl rfl ?_; intro g2 w2 hg2 hx2 f2)
              | ((with_reducible refine at_store ?_); refine w_astoreN Try.stKn _ _ (us := bRow d u ++ [.int .i64 hh]) rfl rfl rfl rfl rfl f2 rfl rfl hone ?_; intro w3 hm3 f3; replace f2 : Fs w3 g2 (bRow d u ++ [.int .i64 hh]) := f3; replace hx2 := hm3.after hx2 (fun i hi => by subst hi; exact hg2); replace hX := hX.trans hx2; replace hrg2 := ranges_ext hrg2 hx2; clear hx2 hm3 f3)
              | ((with_reducible refine at_field ?_); (try refine w_yes _ _ _ rfl rfl rfl ?_); refine w_fieldN (i := 1) (off := 5) (by kernel_rfl) _ _ rfl rfl rfl ?_)
              | ((with_reducible refine at_load ?_); (try refine w_yes _ _ _ rfl rfl rfl ?_); refine w_fload _ rfl rfl rfl f2 rfl (agg_of (by kernel_rfl)) ?_)
              | fail) <;> (try simp only [Act.put, List.setIfInBounds_toArray, List.set_cons_zero, List.set_cons_succ]))
            go_roundw
            case rel => exact ⟨_, _, _, _, rfl, rfl, hrg2, hy2, hX⟩
            case measure => rw [hrg2.left_eq, hrl.out]; exact hlt'.out
          · have hy2 := hide_ (hy.out (.inr ⟨by have : hh = h := by simpa using c2
                                                omega, of_decide_eq_true c3⟩))
            clear hy hno
            go_wp2_with ((first
              | ((with_reducible refine at_entry ?_); refine w_mentry _ rfl rfl rfl hen'.out ?_)
              | ((with_reducible refine at_alloc ?_); refine w_allocN Try.stKn rfl rfl ?_; intro g2 w2 hg2 hx2 f2)
              | ((with_reducible refine at_store ?_); refine w_astoreN Try.stKn _ _ (us := bRow d u ++ [.int .i64 hh]) rfl rfl rfl rfl rfl f2 rfl rfl hone ?_; intro w3 hm3 f3; replace f2 : Fs w3 g2 (bRow d u ++ [.int .i64 hh]) := f3; replace hx2 := hm3.after hx2 (fun i hi => by subst hi; exact hg2); replace hX := hX.trans hx2; replace hrg2 := ranges_ext hrg2 hx2; clear hx2 hm3 f3)
              | ((with_reducible refine at_field ?_); (try refine w_yes _ _ _ rfl rfl rfl ?_); refine w_fieldN (i := 1) (off := 5) (by kernel_rfl) _ _ rfl rfl rfl ?_)
              | ((with_reducible refine at_load ?_); (try refine w_yes _ _ _ rfl rfl rfl ?_); refine w_fload _ rfl rfl rfl f2 rfl (agg_of (by kernel_rfl)) ?_)
              | fail) <;> (try simp only [Act.put, List.setIfInBounds_toArray, List.set_cons_zero, List.set_cons_succ]))
            refine wp_region_phx (by kernel_rfl) ?_; intro wd hxd; have Hf := f2.ext hxd
            refine Ph.rest 0 5 (by kernel_rfl) ?_
            refine LinL.step (s := (.val (.int .i64 d.name))) [(5, none)] rfl (by kernel_rfl) (op_out 5 (.int .i64 d.name) rfl (.inl rfl) rfl) ?_
            refine LinL.step (s := (.val (.pointer (some ⟨g2, 5, none⟩)))) [(6, none)] rfl (by kernel_rfl) (op_runs rfl fun σ w' hx hg => ⟨_, runs_fieldN (ρ := σ.eval) (w := w') (i := 1) (off := 5) (by kernel_rfl) (.tmp 6) g2 rfl hg.1, rfl⟩) ?_
            refine LinL.step (s := (.val (.int .i64 hh))) [(33, some 0)] rfl (by kernel_rfl) (op_runs rfl fun σ w' hx hg => ⟨_, runs_fload (ρ := σ.eval) (w := w') (.tmp 33) rfl hg.1 (agg_of (by kernel_rfl) _) (Hf.ext hx) rfl, rfl⟩) ?_
            refine LinL.step (s := (.val (.int .i64 d.name))) [(32, some 2)] rfl (by kernel_rfl) (op_copy 32 2 _ rfl (.inr rfl) rfl) ?_
            refine LinL.step (s := (.val (.int .i64 hh))) [(34, some 1)] rfl (by kernel_rfl) (op_copy 34 1 _ rfl (.inr rfl) rfl) ?_
            intro wN hxN
            simp only [Fin', List.reverse_cons, List.reverse_nil, List.nil_append, List.cons_append, List.drop_zero, List.take_succ_cons, List.take_zero]
            simp only [Act.put, List.setIfInBounds_toArray, List.set_cons_zero, List.set_cons_succ]
            replace hX := hX.trans (hxd.trans hxN); replace hrg2 := ranges_ext hrg2 (hxd.trans hxN)
            clear hxd hxN Hf f2
            go_wp2
            go_roundw
            case rel => exact ⟨_, _, _, _, rfl, rfl, hrg2, hy2, hX⟩
            case measure => rw [hrg2.left_eq, hrl.out]; exact hlt'.out
      · have hy2 := hide_ (hy.out (.inl (of_decide_eq_true c1)))
        clear hy hno
        go_wp2_with ((first
          | ((with_reducible refine at_entry ?_); refine w_mentry _ rfl rfl rfl hen'.out ?_)
          | ((with_reducible refine at_alloc ?_); refine w_allocN Try.stKn rfl rfl ?_; intro g2 w2 hg2 hx2 f2)
          | ((with_reducible refine at_store ?_); refine w_astoreN Try.stKn _ _ (us := bRow d u ++ [.int .i64 hh]) rfl rfl rfl rfl rfl f2 rfl rfl hone ?_; intro w3 hm3 f3; replace f2 : Fs w3 g2 (bRow d u ++ [.int .i64 hh]) := f3; replace hx2 := hm3.after hx2 (fun i hi => by subst hi; exact hg2); replace hX := hX.trans hx2; replace hrg2 := ranges_ext hrg2 hx2; clear hx2 hm3 f3)
          | ((with_reducible refine at_field0 ?_); refine w_fieldN (i := 1) (off := 5) (by kernel_rfl) _ _ rfl rfl rfl ?_)
          | ((with_reducible refine at_load0 ?_); refine w_fload _ rfl rfl rfl f2 rfl (agg_of (by kernel_rfl)) ?_)
          | fail) <;> (try simp only [Act.put, List.setIfInBounds_toArray, List.set_cons_zero, List.set_cons_succ]))
        refine wp_region_phx (by kernel_rfl) ?_; intro wd hxd; have Hf := f2.ext hxd
        refine Ph.rest 0 5 (by kernel_rfl) ?_
        refine LinL.step (s := (.val (.int .i64 d.name))) [(5, none)] rfl (by kernel_rfl) (op_out 5 (.int .i64 d.name) rfl (.inl rfl) rfl) ?_
        refine LinL.step (s := (.val (.pointer (some ⟨g2, 5, none⟩)))) [(6, none)] rfl (by kernel_rfl) (op_runs rfl fun σ w' hx hg => ⟨_, runs_fieldN (ρ := σ.eval) (w := w') (i := 1) (off := 5) (by kernel_rfl) (.tmp 6) g2 rfl hg.1, rfl⟩) ?_
        refine LinL.step (s := (.val (.int .i64 hh))) [(33, some 0)] rfl (by kernel_rfl) (op_runs rfl fun σ w' hx hg => ⟨_, runs_fload (ρ := σ.eval) (w := w') (.tmp 33) rfl hg.1 (agg_of (by kernel_rfl) _) (Hf.ext hx) rfl, rfl⟩) ?_
        refine LinL.step (s := (.val (.int .i64 d.name))) [(32, some 2)] rfl (by kernel_rfl) (op_copy 32 2 _ rfl (.inr rfl) rfl) ?_
        refine LinL.step (s := (.val (.int .i64 hh))) [(34, some 1)] rfl (by kernel_rfl) (op_copy 34 1 _ rfl (.inr rfl) rfl) ?_
        intro wN hxN
        simp only [Fin', List.reverse_cons, List.reverse_nil, List.nil_append, List.cons_append, List.drop_zero, List.take_succ_cons, List.take_zero]
        simp only [Act.put, List.setIfInBounds_toArray, List.set_cons_zero, List.set_cons_succ]
        replace hX := hX.trans (hxd.trans hxN); replace hrg2 := ranges_ext hrg2 (hxd.trans hxN)
        clear hxd hxN Hf f2
        go_wp2
        go_roundw
        case rel => exact ⟨_, _, _, _, rfl, rfl, hrg2, hy2, hX⟩
        case measure => rw [hrg2.left_eq, hrl.out]; exact hlt'.out
end Go.Proofs.Ytdoeoncmhaihbaa
namespace Go.Proofs.Ytdoeoncmhaihbaa
set_option maxRecDepth 100000
open Go.RowKit Go.Shelf

def Try.revL_ren : Go.Shelf.Ren := ⟨fun | 35 => 50 | n => n, fun | 22 => 25 | 23 => 3 | 3 => 3 | 4 => 4 | 0 => 0 | n => n, fun | n => n⟩
theorem Try.revL : Go.Proofs.SlLaysN.n35 Try.prog Try.revL_ren := {
  mixed := by kernel_rfl,
  f35 := ⟨Try.f50.name, by decide, Try.func50.trans (congrArg some (by kernel_rfl))⟩,
  t0 := Try.underlying0,
  a0 := Try.isAgg0,
  z0 := Try.sizeOf0,
  v0 := Try.zeroValue0,
  t3 := Try.underlying3,
  a3 := Try.isAgg3,
  z3 := Try.sizeOf3,
  v3 := Try.zeroValue3,
  t4 := Try.underlying4,
  a4 := Try.isAgg4,
  z4 := Try.sizeOf4,
  v4 := Try.zeroValue4,
  t22 := Try.underlying25,
  a22 := Try.isAgg25,
  z22 := Try.sizeOf25,
  v22 := Try.zeroValue25,
  t23 := Try.underlying3,
  a23 := Try.isAgg3,
  z23 := Try.sizeOf3,
  v23 := Try.zeroValue3 }
end Go.Proofs.Ytdoeoncmhaihbaa
namespace Go.Proofs.Ytdoeoncmhaihbaa
set_option maxRecDepth 100000
open Go.RowKit Go.Sort Go.Lib

theorem Reverse_own {base : Nat} {w : World} {v : Value} {l : List Int} (h : OwnI base w v l) :
    Calls Try.prog 50 #[v] w fun e w' => e = .returned (.tuple #[]) ∧ OwnI base w' v l.reverse ∧ Mod (fun k => v.ownBlock = some k) w w' := by
  rcases h.split with ⟨rfl, rfl⟩ | ⟨g, cap, cur, rfl, hb, hh, r1, r2, r3, r4⟩
  · refine (AnyG.slices_Reverse_int_empty Try.revL none 0 w).mono ?_
    rintro e w' ⟨rfl, rfl⟩
    exact ⟨rfl, by simpa using h, Mod.refl _ _⟩
  · refine (AnyG.slices_Reverse_int Try.revL g 0 cap l w (holds_of_block_i hh r4) (by unfold maxLen at r2; omega)).mono ?_
    rintro e w' ⟨rfl, n, rfl⟩
    have hl : l.reverse.length = l.length := List.length_reverse
    refine ⟨rfl, OwnI.of_row ?_, ?_⟩
    · have := ownsRow_sorted_i (n := n) (os := #[]) (ts := l.reverse) (ss := l) hl hb hh r1 r2 r3
      rw [hl]; simpa using this
    · have := mod_sorted (w := w) (g := g) (n := n) (os := #[]) l.reverse.toArray
      rw [Go.Sort.grow_empty] at this
      exact this.mono fun i _ hi => by subst hi; rfl
end Go.Proofs.Ytdoeoncmhaihbaa
namespace Go.Proofs.Ytdoeoncmhaihbaa
set_option maxRecDepth 100000
open Go.RowKit

/-- A parent that is waited for. -/
def wantP (K V : List BlkD) (b : BlkD) : Bool := !TrS.has K b.parent && !TrS.has V b.parent
theorem missing_eq {K V : List BlkD} (hc : ∀ x ∈ V, TrS.ready K x = false) : TrS.missing ⟨K, V⟩ = rise ((V.filter (wantP K V)).map BlkD.parent) := by
  unfold TrS.missing
  congr 2
  apply List.filter_congr
  intro b hb
  have h := hc b hb
  have h2 : TrS.has K b.parent = false := by simp only [TrS.ready, Bool.or_eq_false_iff] at h; exact h.2
  simp [wantP, h, h2]

end Go.Proofs.Ytdoeoncmhaihbaa
namespace Go.Proofs.Ytdoeoncmhaihbaa
set_option maxRecDepth 100000
open Go.RowKit

theorem pathF_len (K : List BlkD) : ∀ (f : Nat) (n : Int), (TrS.pathF f K n).length ≤ f
  | 0, n => by simp [TrS.pathF]
  | f + 1, n => by
    unfold TrS.pathF
    cases TrS.get K n with
    | none => simp
    | some b => have := pathF_len K f b.parent; simp; omega
theorem path_len (K : List BlkD) (n : Int) : (TrS.path K n).length ≤ 4096 := pathF_len K _ n
/-- m[n], by what it says of K. -/
theorem TrC.look6 {X : Nat → Prop} {w : World} {p g : Nat} {v : Value} {K V : List BlkD} (h : TrC X w p g v K V) (n : Int) :
    ∃ cs : List Value, cs.length = 6 ∧ (∀ u ∈ cs, u.oneCell' = true) ∧ Look w g n (.agg cs.toArray) (TrS.has K n) ∧ ∀ d, TrS.get K n = some d → cs[3]? = some (.int .i64 d.parent) ∧ I64 d.parent := by
  obtain ⟨cs, h1, h2, h3, h4⟩ := h.look n
  refine ⟨cs, h1, h2, h3, fun d hd => ?_⟩
  rcases h4 with ⟨hg, _⟩ | ⟨d', u, hg, ht, rfl⟩
  · rw [hg] at hd; cases hd
  · rw [hg] at hd; injection hd with hd; subst hd
    exact ⟨rfl, ht.2.1.par⟩

set_option maxRecDepth 100000 in
set_option maxHeartbeats 3200000 in
theorem Path_any {G : Nat → Prop} {w : World} {p : Nat} {K V : List BlkD} {n : Int} (h0 : TrW G w p K V) (hn : I64 n) :
    Calls Try.prog 37 #[.pointer (some ⟨p, 0, none⟩), .int .i64 n] w fun e w' => ∃ v', e = .returned v' ∧ OwnI w.heap.size w' v' (TrS.path K n) ∧ Ext w w' := by
  refine calls_keep ?_
  obtain ⟨X, g, v, h1, _⟩ := h0
  have f1 := h1.obj
  have uq := hide_ h1.fit.uq
  have hlk := hide_ h1.look6
  have hn' := hide_ hn
  obtain ⟨cs, hlen, hone, hl, hcs0⟩ := h1.look6 n
  replace hl := hide_ hl
  replace hcs0 := hide_ hcs0
  have hX := Ext.refl w
  clear h1
  go_enter Try.func37, Try.ntmps37
  obtain ⟨q, hq⟩ : ∃ q, TrS.has K n = q := ⟨_, rfl⟩
  rw [hq] at hl
  go_wp2_with ((first
    | (refine w_mlook _ _ rfl rfl rfl rfl hl.out hn'.out ?_)
    | ((with_reducible refine at_alloc ?_); refine w_allocN Try.stKn rfl rfl ?_; intro g2 w2 hg2 hx2 f2)
    | ((with_reducible refine at_store ?_); refine w_astoreN Try.stKn _ _ rfl rfl rfl rfl rfl f2 rfl hlen hone ?_; intro w3 hm3 f3; replace f2 : Fs w3 g2 cs := f3; replace hX := hX.trans (hm3.after hx2 (fun i hi => by subst hi; exact hg2)); clear hx2 hm3 f3)
    | ((with_reducible refine at_field ?_); (try refine w_yes _ _ _ rfl rfl rfl ?_); refine w_field Try.stTree _ _ _ rfl rfl rfl (by omega) ?_)
    | ((with_reducible refine at_load ?_); (try refine w_yes _ _ _ rfl rfl rfl ?_); refine w_fload _ rfl rfl rfl f1 rfl (agg_of (by kernel_rfl)) ?_)
    | fail) <;> (try simp only [Act.put, List.setIfInBounds_toArray, List.set_cons_zero, List.set_cons_succ]))
  go_loopw [1, 5, 6, 7] (fun u1 u5 u6 u7 wr => ∃ (m : Int) (l : List Int) (g6 : Nat) (cs : List Value) (q : Bool), u1 = .int .i64 m ∧ u6 = .pointer (some ⟨g6, 0, none⟩) ∧ u7 = .bool q ∧ OwnI w.heap.size wr u5 l ∧ w.heap.size ≤ g6 ∧ (∀ k, u5.ownBlock = some k → ¬ k = g6) ∧ Fs wr g6 cs ∧
      cs.length = 6 ∧ (∀ u ∈ cs, u.oneCell' = true) ∧ Hid (TrS.has K m = q) ∧ Hid (∀ d, TrS.get K m = some d → cs[3]? = some (.int .i64 d.parent) ∧ I64 d.parent) ∧ Hid (TrS.path K n = TrS.path K m ++ l.reverse) ∧ Ext w wr) (fun u1 _ _ _ _ => (TrS.path K (RowKit.intOf u1)).length)
  case atStart => exact ⟨n, [], g2, cs, q, rfl, rfl, rfl, OwnI.nil _ _, hg2, fun k hk => (by cases hk), f2, hlen, hone, hide_ hq, hcs0, hide_ (by simp), hX⟩
  case round =>
    clear hX f2 hl hcs0 hone hlen hq
    obtain ⟨m, l, g6, cs, q, rfl, rfl, rfl, ho, hg6, hne, f6, hlen, hone, hq, hcs, hp, hX⟩ := hrel
    cases q
    · have hpe := hide_ (show l.reverse = TrS.path K n from by
        have hg : TrS.get K m = none := by
          have := get_has (K := K) (n := m)
          rw [hq.out] at this
          cases hg : TrS.get K m with
          | none => rfl
          | some d => rw [hg] at this; cases this
        rw [hp.out, TrS.path_none hg]; rfl)
      have hnew := hide_ (fun k hk => (own_block_lt (g := k) ho hk).1)
      clear hq hcs hp
      go_wp2_with (first
        | (go_at_call 50; refine (Reverse_own ho).mono ?_; rintro e w4 ⟨rfl, o1, hm⟩; rw [hpe.out] at o1; replace hX := hm.after hX hnew.out; clear hm)
        | fail)
      go_ret
      exact Keep.intro ⟨_, rfl, o1, hX⟩
    · obtain ⟨d, hd⟩ : ∃ d, TrS.get K m = some d := by
        have := get_has (K := K) (n := m)
        rw [hq.out] at this
        exact Option.isSome_iff_exists.1 this
      obtain ⟨hc3, hpar⟩ := hcs.out d hd
      have hpe := uq.out.path (TrS.get_some hd).1
      rw [(TrS.get_some hd).2] at hpe
      have hpl := hide_ (show (TrS.path K d.parent).length < (TrS.path K m).length from by rw [hpe]; simp)
      have hp2 := hide_ (show TrS.path K n = TrS.path K d.parent ++ (l ++ [m]).reverse from by rw [hp.out, hpe]; simp)
      have hbig := hide_ (show (l.length + [m].length) * 8 ≤ 140737488355328 from by
        have h1 := congrArg List.length hp.out
        have h2 := path_len K n
        simp at h1 ⊢; omega)
      obtain ⟨cs2, hlen2, hone2, hl2, hcs2⟩ := hlk.out d.parent
      obtain ⟨q2, hq2⟩ : ∃ q2, TrS.has K d.parent = q2 := ⟨_, rfl⟩
      rw [hq2] at hl2
      replace hq2 := hide_ hq2
      replace hl2 := hide_ hl2
      replace hcs2 := hide_ hcs2
      replace hpar := hide_ hpar
      clear hq hcs hp hpe hd
      go_wp2_with ((first
        | (refine w_mlook _ _ rfl rfl rfl rfl (hl2.out.ext hX) hpar.out ?_)
        | ((with_reducible refine at_lit ?_); refine w_new Try.elI (i64s [m]) rfl rfl rfl (i64s_cells _) rfl (by omega) ?_; intro v2 w5 hx3 o2; replace o2 : OwnI _ w5 v2 [m] := o2; replace ho := own_ext ho hx3; replace hX := hX.trans hx3; replace f6 := f6.ext hx3; clear hx3)
        | ((with_reducible refine at_bi ?_); refine appi _ _ rfl rfl rfl rfl ho o2.ints hbig.out hX.size ?_; intro v9 w9 o9 hb9 hg9 hg9'; replace f6 := f6.mod (Mod.grown hg9) (fun hk => hne _ hk rfl); replace hX := hX.trans' hb9; replace ho := o9; clear hb9 hg9 hg9' o9 o2 hne)
        | ((with_reducible refine at_alloc ?_); refine w_allocN Try.stKn rfl rfl ?_; intro g7 w2 hg2 hx2 f7; have hne7 := hide_ (show ∀ k, v9.ownBlock = some k → ¬ k = g7 from fun k hk => Nat.ne_of_lt (Nat.lt_of_lt_of_le (own_block_lt (g := k) ho hk).2 hg2)); have hg7 := Nat.le_trans hX.size hg2; replace ho := own_ext ho hx2; replace hX := hX.trans hx2; clear hx2 hg2 f6)
        | ((with_reducible refine at_store ?_); refine w_astoreN Try.stKn _ _ (us := cs) rfl rfl rfl rfl rfl f7 rfl hlen hone ?_; intro w3 hm3 f3; replace f7 : Fs w3 g7 cs := f3; replace ho := own_mod ho hm3 hne7.out; replace hX := hm3.after hX (fun i hi => by subst hi; exact hg7); clear hm3 f3)
        | ((with_reducible refine at_store ?_); refine w_astoreN Try.stKn _ _ (us := cs2) rfl rfl rfl rfl rfl f7 hlen hlen2 hone2 ?_; intro w3 hm3 f3; replace f7 : Fs w3 g7 cs2 := f3; replace ho := own_mod ho hm3 hne7.out; replace hX := hm3.after hX (fun i hi => by subst hi; exact hg7); clear hm3 f3)
        | ((with_reducible refine at_load ?_); refine w_loadN Try.stKn _ cs rfl rfl rfl f6 hlen (fun j u h => by rw [Nat.zero_add]; exact h) ?_)
        | ((with_reducible refine at_field ?_); refine w_field Try.stBlk _ _ _ rfl rfl rfl (by omega) ?_)
        | ((with_reducible refine at_field ?_); refine w_fieldN (i := 0) (off := 0) (by kernel_rfl) _ _ rfl rfl rfl ?_)
        | ((with_reducible refine at_load ?_); refine w_fload _ rfl rfl rfl f6 hc3 (agg_of (by kernel_rfl)) ?_)
        | ((with_reducible refine at_field ?_); (try refine w_yes _ _ _ rfl rfl rfl ?_); refine w_field Try.stTree _ _ _ rfl rfl rfl (by omega) ?_)
        | ((with_reducible refine at_load ?_); refine w_fload _ rfl rfl rfl (f1.ext hX) rfl (agg_of (by kernel_rfl)) ?_)
        | fail) <;> (try simp only [Act.put, List.setIfInBounds_toArray, List.set_cons_zero, List.set_cons_succ]))
      go_roundw
      case rel => exact ⟨d.parent, l ++ [m], g7, cs2, q2, rfl, rfl, rfl, ho, hg7, hne7.out, f7, hlen2, hone2, hq2, hcs2, hp2, hX⟩
      case measure => exact hpl.out
end Go.Proofs.Ytdoeoncmhaihbaa
namespace Go.Proofs.Ytdoeoncmhaihbaa
set_option maxRecDepth 100000
open Go.RowKit

/-- So many steps down a way. -/
def backN (L : List Int) (steps : Int) : Int := ((L.take (L.length - steps.toNat)).getLast?).getD 0
set_option maxRecDepth 100000 in
set_option maxHeartbeats 1600000 in
theorem Back_any {G : Nat → Prop} {w : World} {p : Nat} {K V : List BlkD} {n steps : Int} (h0 : TrW G w p K V) (hn : I64 n) (hs : I64 steps) :
    Calls Try.prog 39 #[.pointer (some ⟨p, 0, none⟩), .int .i64 n, .int .i64 steps] w fun e w' => e = .returned (.int .i64 (backN (TrS.path K n) steps)) ∧ Ext w w' := by
  refine calls_keep ?_
  replace h0 := hide_ h0
  replace hn := hide_ hn
  have hX := Ext.refl w
  obtain ⟨L, hL⟩ : ∃ L, TrS.path K n = L := ⟨_, rfl⟩
  have hlen : L.length ≤ 4096 := by rw [← hL]; exact path_len K n
  obtain ⟨s, hss, hs2⟩ : ∃ s : Nat, (s : Int) = max steps 0 ∧ s = steps.toNat := ⟨steps.toNat, by omega, rfl⟩
  have hmx := hide_ hss
  have hsb : s ≤ 9223372036854775807 := by have := hs.2; omega
  have hL' := hide_ hL
  rw [hL]
  clear hss hs hL
  by_cases hlt : L.length ≤ s
  · have hr := hide_ (show backN L steps = 0 from by unfold backN; rw [← hs2, Nat.sub_eq_zero_of_le hlt]; rfl)
    have t1 : decide ((L.length : Int) - 1 - (s : Int) < 0) = true := decide_eq_true (by omega)
    clear hs2
    go_enter Try.func39, Try.ntmps39
    go_wp2_with ((first
      | (go_at_call 37; refine (Path_any (n := n) (h0.out.ext hX) hn.out).mono ?_; rintro e w1 ⟨v1, rfl, o1, hx⟩; rw [hL'.out] at o1; replace o1 := o1.ints; replace hX := hX.trans hx; clear hx)
      | ((with_reducible refine at_bi ?_); refine i_len _ rfl rfl (v := v1) rfl o1 ?_)
      | ((with_reducible refine at_bi ?_); refine w_max _ _ (s : Int) hmx.out rfl rfl rfl rfl ?_)
      | fail) <;> (try simp only [Act.put, List.setIfInBounds_toArray, List.set_cons_zero, List.set_cons_succ]))
    go_ret
    exact Keep.intro ⟨by rw [hr.out]; rfl, hX⟩
  · obtain ⟨i, hi⟩ : ∃ i : Nat, (L.length : Int) - 1 - (s : Int) = (i : Int) := ⟨L.length - 1 - s, by omega⟩
    have hi2 : i < L.length := by omega
    have hr := hide_ (show backN L steps = L[i] from by
      unfold backN
      rw [← hs2, List.getLast?_eq_getElem?, List.length_take, List.getElem?_take_of_lt (by omega), show min (L.length - s) L.length - 1 = i from by omega, List.getElem?_eq_getElem hi2]; rfl)
    have hi2' := hide_ hi2
    have t1 : decide ((i : Int) < 0) = false := decide_eq_false (by omega)
    clear hs2
    go_enter Try.func39, Try.ntmps39
    go_wp2_with ((first
      | (go_at_call 37; refine (Path_any (n := n) (h0.out.ext hX) hn.out).mono ?_; rintro e w1 ⟨v1, rfl, o1, hx⟩; rw [hL'.out] at o1; replace o1 := o1.ints; replace hX := hX.trans hx; clear hx)
      | ((with_reducible refine at_bi ?_); refine i_len _ rfl rfl (v := v1) rfl o1 ?_)
      | ((with_reducible refine at_bi ?_); refine w_max _ _ (s : Int) hmx.out rfl rfl rfl rfl ?_)
      | ((with_reducible refine at_idx ?_); refine i_idx _ _ i rfl rfl rfl o1 rfl hi2'.out ?_; intro ad had; rw [← hr.out] at had)
      | fail) <;> (try simp only [Act.put, List.setIfInBounds_toArray, List.set_cons_zero, List.set_cons_succ]))
    go_ret
    exact Keep.intro ⟨rfl, hX⟩

theorem lcp_take : ∀ {p q : List Int} {k : Nat}, p.take k = q.take k → (p.length ≤ k ∨ q.length ≤ k ∨ ∃ a b, p[k]? = some a ∧ q[k]? = some b ∧ a ≠ b) → k ≤ p.length → k ≤ q.length → TrS.lcp p q = p.take k
  | [], q, k, _, _, hk, _ => by simp [TrS.lcp]
  | x :: p, [], k, _, _, _, hk => by
    obtain rfl : k = 0 := by simpa using hk
    simp [TrS.lcp]
  | x :: p, y :: q, 0, _, h, _, _ => by
    rcases h with h | h | ⟨a, b, h1, h2, h3⟩
    · simp at h
    · simp at h
    · simp at h1 h2; subst h1 h2
      simp [TrS.lcp, h3]
  | x :: p, y :: q, k + 1, he, h, h1, h2 => by
    simp only [List.take_succ_cons, List.cons.injEq] at he
    obtain ⟨rfl, he⟩ := he
    rw [TrS.lcp, if_pos rfl, List.take_succ_cons, lcp_take he ?_ (by simpa using h1) (by simpa using h2)]
    rcases h with h | h | ⟨a, b, h1, h2, h3⟩
    · exact .inl (by simpa using h)
    · exact .inr (.inl (by simpa using h))
    · exact .inr (.inr ⟨a, b, by simpa using h1, by simpa using h2, h3⟩)

end Go.Proofs.Ytdoeoncmhaihbaa
