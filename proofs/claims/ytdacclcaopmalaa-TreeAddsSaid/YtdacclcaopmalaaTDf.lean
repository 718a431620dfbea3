/- The document's tree of blocks: one more block; rising lists; ways and heights. -/
import Derived.Test.YtdacclcaopmalaaTDe
namespace Go.Proofs.Ytdacclcaopmalaa
set_option maxRecDepth 100000
open Go.RowKit Go.ChangeShapes Go.WideShapes Go.ChangeAt

theorem refAdd_kp {Wr w : World} {S : Nat → Prop} {vk vw u : Value} {K V : List BlkD} {b : BlkD} (er : Ext Wr w) (hKP : KP Wr S w vk K) (hVP : KP Wr S w vw V) (hV16 : V.length ≤ 16) (hur : Recs 2 TxR Wr u b.txs) (hraw : b.Raw) {K2 V2 : List BlkD} {Ln : List Int} {ok : Bool} (hR : TrS.add ⟨K, V⟩ b = (⟨K2, V2⟩, Ln, ok)) :
    Calls Try.prog 26 #[.agg #[vk, vw], .agg (bRow b u).toArray] w fun e w' => ∃ vk' vw' v', e = .returned (.tuple #[.agg #[vk', vw'], v', .bool ok]) ∧ KP Wr (fun k => S k ∨ w.heap.size ≤ k) w' vk' K2 ∧ KP Wr (fun k => S k ∨ w.heap.size ≤ k) w' vw' V2 ∧ OwnI w.heap.size w' v' Ln ∧ Ext w w' := by
  have no : ∀ w', OwnI w.heap.size w' (.slice none 0 0) [] := fun w' => OwnI.nil _ w'
  have hK := hKP.recs er
  have hV := hVP.recs er
  have hu := hur.ext TxR.stays er
  have wide : ∀ {v : Value} {l : List BlkD} {w' : World}, KP Wr S w v l → Ext w w' → KP Wr (fun k => S k ∨ w.heap.size ≤ k) w' v l := fun h hx => (h.ext hx).mono fun _ _ hs => .inl hs
  by_cases hc : b.name = 0 ∨ TrS.has K b.name = true ∨ TrS.has V b.name = true
  · rw [add_c1 hc] at hR
    simp only [Prod.mk.injEq, TrS.mk.injEq] at hR
    obtain ⟨⟨rfl, rfl⟩, rfl, rfl⟩ := hR
    refine (refAdd_c1 hK hV hV16 hu hraw hc).mono ?_
    rintro e w' ⟨rfl, hX⟩
    exact ⟨vk, vw, _, rfl, wide hKP hX, wide hVP hX, no _, hX⟩
  cases hrd : TrS.ready K b
  · rw [add_c2 hc hrd] at hR
    simp only [Prod.mk.injEq, TrS.mk.injEq] at hR
    obtain ⟨⟨rfl, rfl⟩, rfl, rfl⟩ := hR
    obtain ⟨rows, hs0, hB0, _⟩ := hVP
    refine (refAdd_c2 er hK hs0 hB0 hV16 hur hraw hc hrd).mono ?_
    rintro e w' ⟨vw', rows', rfl, s1, b1, n1, hX⟩
    exact ⟨vk, vw', _, rfl, wide hKP hX, KP.new s1 b1 fun k hk => .inr (n1 k hk), no _, hX⟩
  by_cases hk : K.length < 400
  · have e : TrS.add ⟨K, V⟩ b = (⟨(TrS.drain V.length (K ++ [b]) V [b.name]).1, (TrS.drain V.length (K ++ [b]) V [b.name]).2.1⟩, (TrS.drain V.length (K ++ [b]) V [b.name]).2.2, true) := by
      unfold TrS.add
      rw [if_neg hc, if_pos hrd, if_pos hk]
    rw [e] at hR
    simp only [Prod.mk.injEq, TrS.mk.injEq] at hR
    obtain ⟨⟨rfl, rfl⟩, rfl, rfl⟩ := hR
    exact refAdd_c4 er hKP hVP hV16 hur hraw hc hrd hk
  · rw [add_c3 hc hrd hk] at hR
    simp only [Prod.mk.injEq, TrS.mk.injEq] at hR
    obtain ⟨⟨rfl, rfl⟩, rfl, rfl⟩ := hR
    refine (refAdd_c3 hK hV hV16 hu hraw hc hrd (by omega)).mono ?_
    rintro e w' ⟨rfl, hX⟩
    exact ⟨vk, vw, _, rfl, wide hKP hX, wide hVP hX, no _, hX⟩

/-! ### A number put into a rising list, as plain mathematics -/
def stI (p : List Int) (n : Int) : List Int × Bool := if p.any (fun y => decide (n ≤ y)) = true then (ins p n, true) else (p, false)
theorem ins_big {n : Int} : ∀ {p q : List Int}, (∀ y ∈ p, y < n) → ins (p ++ q) n = p ++ ins q n
  | [], q, _ => rfl
  | y :: p, q, h => by
    have h1 := h y (List.mem_cons_self ..)
    rw [List.cons_append, ins, if_neg (by omega), if_neg (by omega), ins_big fun z hz => h z (List.mem_cons_of_mem _ hz)]; rfl
theorem ins_pre {n x : Int} : ∀ {p : List Int}, (∃ y ∈ p, n ≤ y) → ins (p ++ [x]) n = ins p n ++ [x]
  | [], h => by obtain ⟨y, hy, _⟩ := h; simp at hy
  | y :: p, h => by
    rw [List.cons_append, ins, ins]
    by_cases h1 : n < y
    · rw [if_pos h1, if_pos h1]; rfl
    · rw [if_neg h1, if_neg h1]
      by_cases h2 : n = y
      · rw [if_pos h2, if_pos h2]; rfl
      · rw [if_neg h2, if_neg h2, ins_pre]
        · rfl
        · obtain ⟨z, hz, hzn⟩ := h
          rcases List.mem_cons.1 hz with rfl | hz
          · omega
          · exact ⟨z, hz, hzn⟩
section
variable {p os : List Int} {n x : Int}
theorem stI_true (h : stI p n = (os, true)) : os = ins p n ∧ ∃ y ∈ p, n ≤ y := by
  unfold stI at h
  split at h
  · rename_i hc
    simp at h
    simp only [List.any_eq_true, decide_eq_true_eq] at hc
    exact ⟨h.symm, hc⟩
  · simp at h
theorem stI_false (h : stI p n = (os, false)) : os = p ∧ ∀ y ∈ p, y < n := by
  unfold stI at h
  split at h
  · simp at h
  · rename_i hc
    simp at h
    refine ⟨h.symm, fun y hy => ?_⟩
    simp only [List.any_eq_true, decide_eq_true_eq, not_exists, not_and] at hc
    have := hc y hy; omega
theorem stI_of (h : ∃ y ∈ p, n ≤ y) : stI p n = (ins p n, true) := by
  unfold stI
  rw [if_pos]
  simp only [List.any_eq_true, decide_eq_true_eq]
  exact h
theorem stI_a (h : stI p n = (os, true)) (hr : Rise (p ++ [x])) : stI (p ++ [x]) n = (os ++ [x], true) ∧ x ≠ n := by
  obtain ⟨rfl, y, hy, hn⟩ := stI_true h
  refine ⟨by rw [stI_of ⟨y, List.mem_append_left _ hy, hn⟩, ins_pre ⟨y, hy, hn⟩], ?_⟩
  have := (List.pairwise_append.1 hr).2.2 y hy x (by simp)
  omega
theorem stI_b (h : stI p n = (os, false)) (hx : x < n) : stI (p ++ [x]) n = (os ++ [x], false) := by
  obtain ⟨rfl, ha⟩ := stI_false h
  unfold stI
  rw [if_neg]
  simp only [List.any_eq_true, decide_eq_true_eq, not_exists, not_and]
  intro y hy
  rcases List.mem_append.1 hy with hy | hy
  · have := ha y hy; omega
  · simp at hy; omega
theorem stI_c (h : stI p n = (os, false)) : stI (p ++ [n]) n = (os ++ [n], true) := by
  obtain ⟨rfl, ha⟩ := stI_false h
  rw [stI_of ⟨n, by simp, Int.le_refl _⟩, ins_big ha]
  simp [ins]
theorem stI_d (h : stI p n = (os, false)) (hx : n < x) : stI (p ++ [x]) n = (os ++ [n] ++ [x], true) := by
  obtain ⟨rfl, ha⟩ := stI_false h
  rw [stI_of ⟨x, by simp, by omega⟩, ins_big ha]
  simp [ins, hx]
theorem ins_len_le : ∀ {l : List Int} {n : Int}, (ins l n).length ≤ l.length + 1
  | [], _ => by simp [ins]
  | y :: l, n => by
    unfold ins
    split
    · simp
    · split
      · simp
      · have := ins_len_le (l := l) (n := n); simp; omega
theorem stI_len : (stI p n).1.length ≤ p.length + 1 := by
  unfold stI
  split
  · exact ins_len_le
  · simp
theorem rise_snoc {l : List Int} : rise (l ++ [x]) = ins (rise l) x := by unfold rise; rw [List.foldl_append]; rfl
theorem rise_len_le (l : List Int) : (rise l).length ≤ l.length := by
  have h : ∀ (l a : List Int), (l.foldl ins a).length ≤ a.length + l.length := by
    intro l
    induction l with
    | nil => intro a; simp
    | cons y l ih =>
      intro a
      have h1 := ih (ins a y)
      have h2 := ins_len_le (l := a) (n := y)
      rw [List.foldl_cons, List.length_cons]; omega
  have := h l []
  simpa [rise] using this
end

set_option maxRecDepth 100000 in
set_option maxHeartbeats 3200000 in
theorem refInsert_any {w : World} {v : Value} {l : List Int} {n : Int} (hl0 : Ints w v l) (hr0 : Rise l) (hlen : l.length ≤ 400) :
    Calls Try.prog 62 #[v, .int .i64 n] w fun e w' => ∃ v', e = .returned v' ∧ OwnI w.heap.size w' v' (ins l n) ∧ Ext w w' := by
  refine calls_keep ?_
  have hl := hide_ hl0
  have hr := hide_ hr0
  clear hl0 hr0
  have hX0 := Ext.refl w
  go_enter Try.func62, Try.ntmps62
  go_wp2_with ((first
    | ((with_reducible refine at_lit ?_); refine w_new Try.elI (i64s []) rfl rfl rfl (i64s_cells _) rfl (by omega) ?_; intro v5 w5 hX o5; replace o5 : OwnI _ w5 v5 [] := o5; clear hX0)
    | ((with_reducible refine at_bi ?_); refine i_len _ rfl rfl (v := v) rfl (hl.out.ext hX) ?_)
    | fail) <;> (try simp only [Act.put, List.setIfInBounds_toArray, List.set_cons_zero, List.set_cons_succ]))
  go_loopw [5, 6, 12] (fun u5 u6 i wr => ∃ (k : Nat) (os : List Int) (dn : Bool), i = .int .i64 k ∧ u6 = .bool dn ∧ k ≤ l.length ∧ stI (l.take k) n = (os, dn) ∧ OwnI w.heap.size wr u5 os ∧ Ext w wr) (fun _ _ i _ => l.length - (RowKit.intOf i).toNat)
  case atStart => exact ⟨0, [], false, rfl, rfl, Nat.zero_le _, rfl, o5, hX⟩
  case round =>
    clear hX o5
    obtain ⟨k, os, dn, rfl, rfl, hk, hst, ho, hX⟩ := hrel
    have hosl := stI_len (p := l.take k) (n := n)
    rw [hst, List.length_take] at hosl
    simp only at hosl
    have hb1 := hide_ (show (os.length + [n].length) * 8 ≤ 140737488355328 by simp; omega)
    by_cases hge : l.length ≤ k
    · obtain rfl : k = l.length := by omega
      have t2 : decide (l.length < l.length) = false := by simp
      rw [List.take_length] at hst
      have hst' := hide_ hst
      clear hge hst hosl
      cases dn
      · go_wp2_with ((first
          | ((with_reducible refine at_lit ?_); refine w_new Try.elI (i64s [n]) rfl rfl rfl (i64s_cells _) rfl (by omega) ?_; intro v2 w5 hx3 o2; replace o2 : OwnI _ w5 v2 [n] := o2; replace ho := own_ext ho hx3; replace hX := hX.trans hx3; clear hx3)
          | ((with_reducible refine at_bi ?_); refine appi _ _ rfl rfl rfl rfl ho o2.ints hb1.out hX.size ?_; intro v9 w9 o9 hb9 hg9 hg9'; replace hX := hX.trans' hb9; replace o9 := hide_ o9; clear hb9 hg9 hg9' ho o2)
          | fail) <;> (try simp only [Act.put, List.setIfInBounds_toArray, List.set_cons_zero, List.set_cons_succ]))
        go_ret
        obtain ⟨rfl, ha⟩ := stI_false hst'.out
        refine Keep.intro ⟨_, rfl, ?_, hX⟩
        have e := ins_big (q := []) ha
        rw [List.append_nil] at e
        rw [e]; exact o9.out
      · replace ho := hide_ ho
        go_wp2
        go_ret
        exact Keep.intro ⟨_, rfl, by rw [← (stI_true hst'.out).1]; exact ho.out, hX⟩
    have hlt : k < l.length := by omega
    have t2 : decide (k < l.length) = true := by simpa using hlt
    obtain ⟨x, hx0⟩ : ∃ x, l[k] = x := ⟨_, rfl⟩
    have htk0 : l.take (k + 1) = l.take k ++ [x] := by rw [List.take_add_one, List.getElem?_eq_getElem hlt, hx0]; rfl
    have hrx := hide_ (show Rise (l.take k ++ [x]) by rw [← htk0]; exact hr.out.sublist (List.take_sublist _ _))
    have htk := hide_ htk0
    have hx0' := hide_ hx0
    have hlt' := hide_ hlt
    have hst' := hide_ hst
    have hb2 := hide_ (show (os.length + [x].length) * 8 ≤ 140737488355328 by simp; omega)
    have hb3 := hide_ (show ((os ++ [n]).length + [x].length) * 8 ≤ 140737488355328 by simp; omega)
    clear hge hx0 htk0 hst hosl
    cases dn
    rotate_left
    · obtain ⟨e1, e2⟩ := stI_a hst'.out hrx.out
      have t6 : (x != n) = true := by simpa using e2
      have e1' := hide_ e1
      clear e1 e2
      go_wp2_with ((first
        | ((with_reducible refine at_idx ?_); refine i_idx _ _ k rfl rfl rfl (hl.out.ext hX) rfl hlt'.out ?_; intro ad had; rw [hx0'.out] at had)
        | ((with_reducible refine at_lit ?_); refine w_new Try.elI (i64s [x]) rfl rfl rfl (i64s_cells _) rfl (by omega) ?_; intro v2 w5 hx3 o3; replace o3 : OwnI _ w5 v2 [x] := o3; replace ho := own_ext ho hx3; replace hX := hX.trans hx3; clear hx3)
        | ((with_reducible refine at_bi ?_); refine appi _ _ rfl rfl rfl rfl ho o3.ints hb2.out hX.size ?_; intro v9 w9 o9 hb9 hg9 hg9'; replace hX := hX.trans' hb9; replace ho := o9; clear hb9 hg9 hg9' o3 o9)
        | fail) <;> (try simp only [Act.put, List.setIfInBounds_toArray, List.set_cons_zero, List.set_cons_succ]))
      go_roundw
      case rel => exact ⟨k + 1, _, true, by go_num, rfl, hlt'.out, by rw [htk.out]; exact e1'.out, ho, hX⟩
      case measure => have := hlt'.out; simp [RowKit.intOf]; omega
    by_cases hxn : x < n
    · have t5 : decide (n ≤ x) = false := decide_eq_false (by omega)
      have t6 : (x != n) = true := by simp; omega
      have e1' := hide_ (stI_b hst'.out hxn)
      clear hxn
      go_wp2_with ((first
        | ((with_reducible refine at_idx ?_); refine i_idx _ _ k rfl rfl rfl (hl.out.ext hX) rfl hlt'.out ?_; intro ad had; rw [hx0'.out] at had)
        | ((with_reducible refine at_lit ?_); refine w_new Try.elI (i64s [x]) rfl rfl rfl (i64s_cells _) rfl (by omega) ?_; intro v2 w5 hx3 o3; replace o3 : OwnI _ w5 v2 [x] := o3; replace ho := own_ext ho hx3; replace hX := hX.trans hx3; clear hx3)
        | ((with_reducible refine at_bi ?_); refine appi _ _ rfl rfl rfl rfl ho o3.ints hb2.out hX.size ?_; intro v9 w9 o9 hb9 hg9 hg9'; replace hX := hX.trans' hb9; replace ho := o9; clear hb9 hg9 hg9' o3 o9)
        | fail) <;> (try simp only [Act.put, List.setIfInBounds_toArray, List.set_cons_zero, List.set_cons_succ]))
      go_roundw
      case rel => exact ⟨k + 1, _, false, by go_num, rfl, hlt'.out, by rw [htk.out]; exact e1'.out, ho, hX⟩
      case measure => have := hlt'.out; simp [RowKit.intOf]; omega
    have t5 : decide (n ≤ x) = true := decide_eq_true (by omega)
    by_cases hxe : x = n
    · have t6 : (x != n) = false := by simpa using hxe
      have e1' := hide_ (show stI (l.take k ++ [x]) n = (os ++ [n], true) by rw [hxe]; exact stI_c hst'.out)
      clear hxn hxe
      go_wp2_with ((first
        | ((with_reducible refine at_idx ?_); refine i_idx _ _ k rfl rfl rfl (hl.out.ext hX) rfl hlt'.out ?_; intro ad had; rw [hx0'.out] at had)
        | ((with_reducible refine at_lit ?_); refine w_new Try.elI (i64s [n]) rfl rfl rfl (i64s_cells _) rfl (by omega) ?_; intro v2 w5 hx3 o2; replace o2 : OwnI _ w5 v2 [n] := o2; replace ho := own_ext ho hx3; replace hX := hX.trans hx3; clear hx3)
        | ((with_reducible refine at_bi ?_); refine appi _ _ rfl rfl rfl rfl ho o2.ints hb1.out hX.size ?_; intro v9 w9 o9 hb9 hg9 hg9'; replace hX := hX.trans' hb9; replace ho := o9; clear hb9 hg9 hg9' o2 o9)
        | fail) <;> (try simp only [Act.put, List.setIfInBounds_toArray, List.set_cons_zero, List.set_cons_succ]))
      go_roundw
      case rel => exact ⟨k + 1, _, true, by go_num, rfl, hlt'.out, by rw [htk.out]; exact e1'.out, ho, hX⟩
      case measure => have := hlt'.out; simp [RowKit.intOf]; omega
    · have t6 : (x != n) = true := by simpa using hxe
      have e1' := hide_ (stI_d hst'.out (show n < x by omega))
      have tokA : True := trivial
      clear hxn hxe
      go_wp2_with ((first
        | ((with_reducible refine at_idx ?_); refine i_idx _ _ k rfl rfl rfl (hl.out.ext hX) rfl hlt'.out ?_; intro ad had; rw [hx0'.out] at had)
        | ((with_reducible refine at_lit ?_); have _t := tokA; refine w_new Try.elI (i64s [n]) rfl rfl rfl (i64s_cells _) rfl (by omega) ?_; intro v2 w5 hx3 o2; replace o2 : OwnI _ w5 v2 [n] := o2; replace ho := own_ext ho hx3; replace hX := hX.trans hx3; clear hx3 tokA)
        | ((with_reducible refine at_bi ?_); refine appi _ _ rfl rfl rfl rfl ho o2.ints hb1.out hX.size ?_; intro v9 w9 o9 hb9 hg9 hg9'; replace hX := hX.trans' hb9; replace ho := o9; clear hb9 hg9 hg9' o2 o9)
        | ((with_reducible refine at_lit ?_); refine w_new Try.elI (i64s [x]) rfl rfl rfl (i64s_cells _) rfl (by omega) ?_; intro v2 w5 hx3 o3; replace o3 : OwnI _ w5 v2 [x] := o3; replace ho := own_ext ho hx3; replace hX := hX.trans hx3; clear hx3)
        | ((with_reducible refine at_bi ?_); refine appi _ _ rfl rfl rfl rfl ho o3.ints hb3.out hX.size ?_; intro v9 w9 o9 hb9 hg9 hg9'; replace hX := hX.trans' hb9; replace ho := o9; clear hb9 hg9 hg9' o3 o9)
        | fail) <;> (try simp only [Act.put, List.setIfInBounds_toArray, List.set_cons_zero, List.set_cons_succ]))
      go_roundw
      case rel => exact ⟨k + 1, _, true, by go_num, rfl, hlt'.out, by rw [htk.out]; exact e1'.out, ho, hX⟩
      case measure => have := hlt'.out; simp [RowKit.intOf]; omega
end Go.Proofs.Ytdacclcaopmalaa
