/- What is asked of a tree: whether one is known, its height, how many, what waits. -/
import Derived.Test.YtdacclcaopmalaaTrO
namespace Go.Proofs.Ytdacclcaopmalaa
set_option maxRecDepth 100000
open Go.RowKit

theorem TrC.look {X : Nat → Prop} {w : World} {p g : Nat} {v : Value} {K V : List BlkD} (h : TrC X w p g v K V) (n : Int) :
    ∃ cs : List Value, cs.length = 6 ∧ (∀ u ∈ cs, u.oneCell' = true) ∧ Look w g n (.agg cs.toArray) (TrS.has K n) ∧
      ((TrS.get K n = none ∧ cs = [.int .i64 0, .int .i64 0, .int .i64 0, .int .i64 0, .slice none 0 0, .int .i64 0]) ∨ ∃ d u, TrS.get K n = some d ∧ TxX X w u d ∧ cs = bRow d u ++ [.int .i64 (TrS.height K n)]) := by
  cases hg : TrS.get K n with
  | none =>
    have hh : TrS.has K n = false := by rw [← get_has, hg]; rfl
    exact ⟨_, rfl, by simp; exact ⟨rfl, rfl, rfl⟩, by rw [hh]; exact h.miss hg, .inl ⟨rfl, rfl⟩⟩
  | some d =>
    obtain ⟨u, h1, h2⟩ := h.hit hg
    have hh : TrS.has K n = true := by rw [← get_has, hg]; rfl
    have h1c : u.oneCell' = true := h2.1.one'
    exact ⟨_, rfl, by simp [bRow]; exact ⟨rfl, rfl, rfl, rfl, h1c, rfl⟩, by rw [hh]; exact h1, .inr ⟨d, u, rfl, h2, rfl⟩⟩

set_option maxRecDepth 100000 in
set_option maxHeartbeats 1600000 in
theorem Has_any {G : Nat → Prop} {w : World} {p : Nat} {K V : List BlkD} {n : Int} (h0 : TrW G w p K V) (hn : I64 n) :
    Calls Try.prog 50 #[.pointer (some ⟨p, 0, none⟩), .int .i64 n] w fun e w' => e = .returned (.bool (TrS.has K n)) ∧ Ext w w' := by
  refine calls_keep ?_
  obtain ⟨X, g, v, h1, _⟩ := h0
  have f1 := h1.obj
  have hn' := hide_ hn
  obtain ⟨cs, hlen, hone, hl, _⟩ := h1.look n
  replace hl := hide_ hl
  obtain ⟨q, hq⟩ : ∃ q, TrS.has K n = q := ⟨_, rfl⟩
  rw [hq] at hl ⊢
  have hX := Ext.refl w
  clear h1 hq
  go_enter Try.func50, Try.ntmps50
  go_wp2_with ((first
    | (refine w_mlook _ _ rfl rfl rfl rfl hl.out hn'.out ?_)
    | ((with_reducible refine at_alloc ?_); refine w_allocN Try.stKn rfl rfl ?_; intro g2 w2 hg2 hx2 f2)
    | ((with_reducible refine at_store ?_); refine w_astoreN Try.stKn _ _ rfl rfl rfl rfl rfl f2 rfl hlen hone ?_; intro w3 hm3 f3; replace f2 : Fs w3 g2 cs := f3; replace hX := hX.trans (hm3.after hx2 (fun i hi => by subst hi; exact hg2)); clear hx2 hm3 f3)
    | ((with_reducible refine at_field ?_); (try refine w_yes _ _ _ rfl rfl rfl ?_); refine w_field Try.stTree _ _ _ rfl rfl rfl (by omega) ?_)
    | ((with_reducible refine at_load ?_); (try refine w_yes _ _ _ rfl rfl rfl ?_); refine w_fload _ rfl rfl rfl f1 rfl (agg_of (by kernel_rfl)) ?_)
    | fail) <;> (try simp only [Act.put, List.setIfInBounds_toArray, List.set_cons_zero, List.set_cons_succ]))
  go_ret
  exact Keep.intro ⟨rfl, hX⟩

set_option maxRecDepth 100000 in
set_option maxHeartbeats 1600000 in
theorem full_any {G : Nat → Prop} {w : World} {p : Nat} {K V : List BlkD} (h0 : TrW G w p K V) :
    Calls Try.prog 54 #[.pointer (some ⟨p, 0, none⟩)] w fun e w' => e = .returned (.bool (decide (400 ≤ K.length))) ∧ Ext w w' := by
  refine calls_keep ?_
  obtain ⟨X, g, v, h1, _⟩ := h0
  have f1 := h1.obj
  obtain ⟨n, D, us, h2, h3, h4, h5, _⟩ := h1.map
  have hs : Maps.size D = K.length := by rw [h5.size]; simp [h4]
  replace h3 := hide_ h3
  replace hs := hide_ hs
  obtain ⟨q, hq⟩ : ∃ q, decide (400 ≤ K.length) = q := ⟨_, rfl⟩
  have t1 : decide ((400 : Int) ≤ (K.length : Int)) = q := by rw [← hq]; exact decide_eq_decide.2 (by omega)
  rw [hq]
  have hX := Ext.refl w
  clear h1 hq h5
  go_enter Try.func54, Try.ntmps54
  go_wp2_with ((first
    | (refine w_mlen _ rfl rfl rfl h3.out hs.out ?_)
    | ((with_reducible refine at_field ?_); (try refine w_yes _ _ _ rfl rfl rfl ?_); refine w_field Try.stTree _ _ _ rfl rfl rfl (by omega) ?_)
    | ((with_reducible refine at_load ?_); (try refine w_yes _ _ _ rfl rfl rfl ?_); refine w_fload _ rfl rfl rfl f1 rfl (agg_of (by kernel_rfl)) ?_)
    | fail) <;> (try simp only [Act.put, List.setIfInBounds_toArray, List.set_cons_zero, List.set_cons_succ]))
  go_ret
  exact Keep.intro ⟨rfl, hX⟩

set_option maxRecDepth 100000 in
set_option maxHeartbeats 1600000 in
theorem Height_any {G : Nat → Prop} {w : World} {p : Nat} {K V : List BlkD} {n : Int} (h0 : TrW G w p K V) (hn : I64 n) :
    Calls Try.prog 48 #[.pointer (some ⟨p, 0, none⟩), .int .i64 n] w fun e w' => e = .returned (.int .i64 (TrS.height K n)) ∧ Ext w w' := by
  refine calls_keep ?_
  obtain ⟨X, g, v, h1, _⟩ := h0
  have f1 := h1.obj
  have hn' := hide_ hn
  cases hc : (n == 0)
  · obtain ⟨cs, hlen, hone, hl, hcs⟩ := h1.look n
    obtain ⟨r, hr⟩ : ∃ r, TrS.height K n = r := ⟨_, rfl⟩
    have hX := Ext.refl w
    rcases hcs with ⟨hg, hcs⟩ | ⟨d, u, hg, _, hcs⟩
    · have hh : TrS.has K n = false := by rw [← get_has, hg]; rfl
      have h5 := hide_ (show TrS.height K n = -1 from by have : n ≠ 0 := by simpa using hc
                                                         rw [TrS.height, if_neg this, hg]; rfl)
      rw [hh] at hl
      replace hl := hide_ hl
      clear h1 hg hcs hr hh
      go_enter Try.func48, Try.ntmps48
      go_wp2_with ((first
        | (refine w_mlook _ _ rfl rfl rfl rfl hl.out hn'.out ?_)
        | ((with_reducible refine at_alloc ?_); refine w_allocN Try.stKn rfl rfl ?_; intro g2 w2 hg2 hx2 f2)
        | ((with_reducible refine at_store ?_); refine w_astoreN Try.stKn _ _ rfl rfl rfl rfl rfl f2 rfl hlen hone ?_; intro w3 hm3 f3; replace f2 : Fs w3 g2 cs := f3; replace hX := hX.trans (hm3.after hx2 (fun i hi => by subst hi; exact hg2)); clear hx2 hm3 f3)
        | ((with_reducible refine at_field ?_); (try refine w_yes _ _ _ rfl rfl rfl ?_); refine w_field Try.stTree _ _ _ rfl rfl rfl (by omega) ?_)
        | ((with_reducible refine at_load ?_); (try refine w_yes _ _ _ rfl rfl rfl ?_); refine w_fload _ rfl rfl rfl f1 rfl (agg_of (by kernel_rfl)) ?_)
        | fail) <;> (try simp only [Act.put, List.setIfInBounds_toArray, List.set_cons_zero, List.set_cons_succ]))
      go_ret
      exact Keep.intro ⟨by rw [h5.out]; rfl, hX⟩
    · have hh : TrS.has K n = true := by rw [← get_has, hg]; rfl
      rw [hh] at hl
      rw [hr] at hcs ⊢
      have hcs5 : cs[5]? = some (.int .i64 r) := by rw [hcs]; rfl
      replace hl := hide_ hl
      clear h1 hg hcs hr hh
      go_enter Try.func48, Try.ntmps48
      go_wp2_with ((first
        | (refine w_mlook _ _ rfl rfl rfl rfl hl.out hn'.out ?_)
        | ((with_reducible refine at_alloc ?_); refine w_allocN Try.stKn rfl rfl ?_; intro g2 w2 hg2 hx2 f2)
        | ((with_reducible refine at_store ?_); refine w_astoreN Try.stKn _ _ rfl rfl rfl rfl rfl f2 rfl hlen hone ?_; intro w3 hm3 f3; replace f2 : Fs w3 g2 cs := f3; replace hX := hX.trans (hm3.after hx2 (fun i hi => by subst hi; exact hg2)); clear hx2 hm3 f3)
        | ((with_reducible refine at_field ?_); (try refine w_yes _ _ _ rfl rfl rfl ?_); refine w_field Try.stTree _ _ _ rfl rfl rfl (by omega) ?_)
        | ((with_reducible refine at_field ?_); refine w_fieldN (i := 1) (off := 5) (by kernel_rfl) _ _ rfl rfl rfl ?_)
        | ((with_reducible refine at_load ?_); refine w_fload _ rfl rfl rfl f2 hcs5 (agg_of (by kernel_rfl)) ?_)
        | ((with_reducible refine at_load ?_); (try refine w_yes _ _ _ rfl rfl rfl ?_); refine w_fload _ rfl rfl rfl f1 rfl (agg_of (by kernel_rfl)) ?_)
        | fail) <;> (try simp only [Act.put, List.setIfInBounds_toArray, List.set_cons_zero, List.set_cons_succ]))
      go_ret
      exact Keep.intro ⟨rfl, hX⟩
  · obtain rfl : n = 0 := by simpa using hc
    have h5 := hide_ (TrS.height_zero K)
    clear hc h1
    go_enter Try.func48, Try.ntmps48
    go_wp2
    go_ret
    exact Keep.intro ⟨by rw [h5.out]; rfl, Ext.refl w⟩

def QR (X : Nat → Prop) (w : World) (row : List Value) (d : BlkD) : Prop := ∃ u, row = bRow d u ∧ TxX X w u d
theorem QR.stays (X : Nat → Prop) : Stays (QR X) := fun _ _ _ _ ⟨u, h1, h2⟩ he => ⟨u, h1, h2.ext he⟩
theorem zip_rows {α β γ : Type} (f : α → β → γ) : ∀ {l : List α} {us : List β} {k : Nat} {row : γ} {d : α}, us.length = l.length → ((l.zip us).map fun x => f x.1 x.2)[k]? = some row → l[k]? = some d → ∃ u, (d, u) ∈ l.zip us ∧ row = f d u
  | [], _, k, row, d, _, _, h => by simp at h
  | x :: l, [], _, _, _, he, _, _ => by simp at he
  | x :: l, u :: us, 0, row, d, _, h1, h2 => by
    simp at h1 h2; subst h1 h2
    exact ⟨u, List.mem_cons_self .., rfl⟩
  | x :: l, u :: us, k + 1, row, d, he, h1, h2 => by
    obtain ⟨u', h3, h4⟩ := zip_rows f (l := l) (us := us) (k := k) (by simpa using he) (by simpa using h1) (by simpa using h2)
    exact ⟨u', List.mem_cons_of_mem _ h3, h4⟩
theorem TrC.recs {X : Nat → Prop} {w : World} {p g : Nat} {v : Value} {K V : List BlkD} (h : TrC X w p g v K V) : Recs 5 (QR X) w v V := by
  obtain ⟨us, h1, h2, h3⟩ := h.que
  refine h2.recs (by simp [h1]) fun k row d hk hd => ?_
  obtain ⟨u, hu, hr⟩ := zip_rows (fun d u => bRow d u) h1 hk hd
  exact ⟨u, hr, h3 _ hu⟩
theorem w_qidx {P : Program} {ops : Array Oper} {rest : List Oper} {o : Oper} {a : Act} {Q : Exit → Act → World → Prop} {w W0 : World} {t e : TypeId} {X : Nat → Prop} {v : Value} {l : List BlkD} (E : ElS P t e 5) (x y : Operand) (i : Nat) (hgd : o.guard = none) (ho : o.op = .indexAddr t x y) (hv : a.eval x = v) (hy : a.eval y = .int .i64 i)
    (h : Recs 5 (QR X) W0 v l) (he : Ext W0 w) {d : BlkD} (hd : l[i]? = some d) (k : ∀ p u, RowAt w p (bRow d u) → TxX X w u d → wpList P ops Q rest (a.put o.dst (.pointer (some p))) w) : wpList P ops Q (o :: rest) a w := by
  have hi := (List.getElem?_eq_some_iff.1 hd).1
  have e : l[i] = d := (List.getElem?_eq_some_iff.1 hd).2
  refine w_ridx0 E x y i (QR.stays X) hgd ho hv hy h he hi ?_
  rintro pa row hrow _ ⟨u, rfl, htx⟩
  rw [e] at hrow htx
  exact k pa u (hrow.ext he) (htx.ext he)
theorem Try.enBlk : ElN Try.prog 48 54 5 56 (.agg #[.int .i64 0, .int .i64 0, .int .i64 0, .int .i64 0, .slice none 0 0]) := ElN.of (by kernel_rfl) (by kernel_rfl) rfl (by omega) (by omega)
theorem BlkD.Raw.par {d : BlkD} (h : d.Raw) : I64 d.parent := h.parent

set_option maxRecDepth 100000 in
set_option maxHeartbeats 3200000 in
theorem Waiting_any {G : Nat → Prop} {w : World} {p : Nat} {K V : List BlkD} (h0 : TrW G w p K V) :
    Calls Try.prog 28 #[.pointer (some ⟨p, 0, none⟩)] w fun e w' => ∃ v', e = .returned v' ∧ OwnI w.heap.size w' v' (V.map BlkD.name) ∧ Ext w w' := by
  refine calls_keep ?_
  obtain ⟨X, g, v, h1, _⟩ := h0
  have f1 := h1.obj
  have hr := hide_ h1.recs
  have hfew := h1.fit.few
  have hX := Ext.refl w
  clear h1
  go_enter Try.func28, Try.ntmps28
  go_wp2_with ((first
    | ((with_reducible refine at_bi ?_); refine w_rlen Try.enBlk.elS _ rfl rfl rfl hr.out ?_)
    | ((with_reducible refine at_field ?_); (try refine w_yes _ _ _ rfl rfl rfl ?_); refine w_field Try.stTree _ _ _ rfl rfl rfl (by omega) ?_)
    | ((try refine w_yes _ _ _ rfl rfl rfl ?_); refine w_fieldO Try.stQue _ _ _ _ rfl rfl rfl (by omega) ?_)
    | ((with_reducible refine at_load ?_); (try refine w_yes _ _ _ rfl rfl rfl ?_); refine w_fload _ rfl rfl rfl f1 rfl (agg_of (by kernel_rfl)) ?_)
    | fail) <;> (try simp only [Act.put, List.setIfInBounds_toArray, List.set_cons_zero, List.set_cons_succ]))
  go_loopw [3, 12] (fun u3 i wr => ∃ k : Nat, i = .int .i64 k ∧ k ≤ V.length ∧ OwnI w.heap.size wr u3 ((V.take k).map BlkD.name) ∧ Ext w wr) (fun _ i _ => V.length - (RowKit.intOf i).toNat)
  case atStart => exact ⟨0, rfl, Nat.zero_le _, OwnI.nil _ _, Ext.refl _⟩
  case round =>
    obtain ⟨k, rfl, hk, ho, hX⟩ := hrel
    by_cases hge : V.length ≤ k
    · obtain rfl : k = V.length := by omega
      have t2 : decide (V.length < V.length) = false := by simp
      rw [List.take_length] at ho
      replace ho := hide_ ho
      go_wp2
      go_ret
      exact Keep.intro ⟨_, rfl, ho.out, hX⟩
    have hlt : k < V.length := by omega
    have t2 : decide (k < V.length) = true := by simpa using hlt
    obtain ⟨d, hd0⟩ : ∃ d, V[k]? = some d := ⟨_, List.getElem?_eq_getElem hlt⟩
    have hlt' := hide_ hlt
    have hd := hide_ hd0
    have he := hide_ (show (V.take k).map BlkD.name ++ [d.name] = (V.take (k + 1)).map BlkD.name from by rw [List.take_add_one, hd0, List.map_append]; rfl)
    have hbig := hide_ (show (((V.take k).map BlkD.name).length + [d.name].length) * 8 ≤ 140737488355328 from by simp; omega)
    clear hge hlt hd0
    go_wp2_with ((first
      | (go_at_call 49; refine (BName_any (b := d) hu.out hpar.out).mono ?_; rintro e w4 ⟨rfl, hx⟩; replace ho := own_ext ho hx; replace hX := hX.trans hx; clear hx f2)
      | (refine w_qidx Try.enBlk.elS _ _ k rfl rfl rfl rfl hr.out hX hd.out ?_; intro pa u hrow htx; have hpar := hide_ htx.2.1.par; have hu := hide_ htx.1; have hone := blk_one (a := d.slot) (b := d.miner) (c := d.var) (d := d.parent) htx.1.one'; replace hrow := hide_ hrow; clear htx)
      | ((with_reducible refine at_load ?_); refine w_pload Try.stBlk _ rfl rfl rfl hrow.out rfl ?_)
      | ((with_reducible refine at_alloc ?_); refine w_alloc Try.stBlk rfl rfl ?_; intro g2 w2 hg2 hx2 f2)
      | ((with_reducible refine at_store ?_); refine w_astore Try.stBlk _ _ (us := bRow d u) rfl rfl rfl rfl rfl f2 rfl rfl hone ?_; intro w3 hm3 f3; replace f2 : Fs w3 g2 (bRow d u) := f3; replace hx2 := hm3.after hx2 (fun i hi => by subst hi; exact hg2); replace hX := hX.trans hx2; replace ho := own_ext ho hx2; replace hu := hide_ (hu.out.ext TxR.stays hx2); clear hm3 f3 hx2 hrow)
      | ((with_reducible refine at_lit ?_); refine w_new Try.elI (i64s [d.name]) rfl rfl rfl (i64s_cells _) rfl (by omega) ?_; intro v2 w5 hx3 o2; replace o2 : OwnI _ w5 v2 [d.name] := o2; replace ho := own_ext ho hx3; replace hX := hX.trans hx3; clear hx3)
      | ((with_reducible refine at_bi ?_); refine appi _ _ rfl rfl rfl rfl ho o2.ints hbig.out hX.size ?_; intro v9 w9 o9 hb9 hg9 hg9'; replace hX := hX.trans' hb9; replace ho := o9; clear hb9 hg9 hg9' o9 o2)
      | ((with_reducible refine at_load ?_); refine w_aload Try.stBlk _ rfl rfl rfl f2 rfl ?_)
      | fail) <;> (try simp only [Act.put, List.setIfInBounds_toArray, List.set_cons_zero, List.set_cons_succ]))
    go_roundw
    case rel => exact ⟨k + 1, by go_num, hlt'.out, by rw [← he.out]; exact ho, hX⟩
    case measure => have := hlt'.out; simp [RowKit.intOf]; omega
end Go.Proofs.Ytdacclcaopmalaa
