/- slices.Delete on a row of addresses that the call owns: one of them taken out: the contract. -/
import Derived.Test.YtkkbpmkeemfppaaNtB
namespace Go.Proofs.Ytkkbpmkeemfppaa
open Go.RowKit

theorem Try.enP : ElN Try.prog 64 68 1 8 (.pointer none) := ElN.of Try.underlying64 (by kernel_rfl) rfl (by decide) (by decide)
theorem zPt1 : ∀ u ∈ (Value.pointer none).cells, u.oneCell' = true := by
  intro u hu
  have : u ∈ #[Value.pointer none] := hu
  simp at this
  subst this
  rfl
set_option maxRecDepth 100000 in
set_option maxHeartbeats 3200000 in
theorem Delete_pt {w : World} {g n cap i : Nat} {b : Int} {cs : List Value} (hB0 : Blk w g 68 cs) (hsz0 : cs.length = cap * 1) (hi0 : i < n) (hn : n ≤ 4000) (hnc : n ≤ cap) (hb : b = ((i + 1 : Nat) : Int)) (h10 : ∀ u ∈ cs.take (n * 1), u.oneCell' = true) :
    Calls Try.prog 31 #[.slice (some ⟨g, 0, none⟩) n cap, .int .i64 (i : Nat), .int .i64 b] w fun e w' => e = .returned (.slice (some ⟨g, 0, none⟩) (n - 1) cap) ∧ Mod (fun k => k = g) w w' ∧
      ∃ cs', Blk w' g 68 cs' ∧ cs'.length = cap * 1 ∧ cs'.take ((n - 1) * 1) = cs.take (i * 1) ++ (cs.drop ((i + 1) * 1)).take ((n - (i + 1)) * 1) := by
  refine calls_keep ?_
  subst hb
  obtain ⟨j, hj⟩ : ∃ j, j = i + 1 := ⟨_, rfl⟩
  rw [← hj]
  obtain ⟨r, hr⟩ : ∃ r, r = n - 1 := ⟨_, rfl⟩
  rw [← hr]
  have hB := hide_ hB0
  have hg := hB0.lt
  have t1 : ((i : Int) == (j : Int)) = false := by rw [beq_eq_false_iff_ne]; omega
  have hij := hide_ (show i ≤ j from by omega)
  have hjn := hide_ (show j ≤ n from by omega)
  have hic := hide_ (show i ≤ cap from by omega)
  have hnc' := hide_ hnc
  have hr1 := hide_ (show i + (n - j) = r from by omega)
  have hrn := hide_ (show r ≤ n from by omega)
  obtain ⟨news, hnews⟩ : ∃ news, news = (cs.drop (j * 1)).take ((n - j) * 1) := ⟨_, rfl⟩
  have hnl0 : news.length = (n - j) * 1 := by rw [hnews, List.length_take, List.length_drop]; omega
  have hnl := hide_ hnl0
  obtain ⟨A, hA0, hsrc0⟩ : ∃ A : Addr, (Value.slice (if cap = j then some (⟨g, 0, none⟩ : Addr) else (some (⟨g, 0, none⟩ : Addr)).map (·.add (j * 1))) (n - j) (cap - j) = .slice (some A) (n - j) (cap - j)) ∧ ∀ w', Blk w' g 68 cs → ∀ q u, news[q]? = some u → w'.cell? (A.add q) = some u := by
    by_cases h : cap = j
    · refine ⟨⟨g, 0, none⟩, by rw [if_pos h], fun w' _ q u hq => ?_⟩
      have : news = [] := List.eq_nil_of_length_eq_zero (by omega)
      rw [this] at hq; simp at hq
    · refine ⟨⟨g, j * 1, none⟩, by rw [if_neg h]; simp only [Option.map_some, addr_add_off, Nat.zero_add], fun w' hw q u hq => ?_⟩
      rw [addr_add_off]
      refine hw.cell ?_
      have hql := (List.getElem?_eq_some_iff.1 hq).1
      rw [hnews, List.getElem?_take_of_lt (by omega), List.getElem?_drop] at hq
      exact hq
  have hA := hide_ hA0
  have hsrc := hide_ hsrc0
  have h1 := hide_ (show ∀ u ∈ news, u.oneCell' = true from fun u hu => by
    rw [hnews] at hu
    obtain ⟨q, hq, rfl⟩ := List.getElem_of_mem hu
    refine h10 _ ?_
    rw [List.getElem_take, List.getElem_drop]
    simp at hq
    have hlt : j * 1 + q < (cs.take (n * 1)).length := by rw [List.length_take]; omega
    have := List.getElem_mem hlt
    rwa [List.getElem_take] at this)
  have hroom := hide_ (show i + (n - j) ≤ cap from by omega)
  have hsz := hide_ (show cap * 1 ≤ cs.length from by omega)
  obtain ⟨cs1, hcs1⟩ : ∃ cs1, cs1 = cs.take (i * 1) ++ news ++ cs.drop (i * 1 + news.length) := ⟨_, rfl⟩
  have hcs1' := hide_ hcs1.symm
  have hl1 : cs1.length = cap * 1 := by rw [hcs1]; simp; omega
  have hv := hide_ (show (Value.slice (if cap = r then some (⟨g, 0, none⟩ : Addr) else (some (⟨g, 0, none⟩ : Addr)).map (·.add (r * 1))) (n - r) (cap - r) = .slice (some ⟨g, r * 1, none⟩) 1 (cap - r)) from by
    rw [if_neg (by omega), show n - r = 1 from by omega]
    simp only [Option.map_some, addr_add_off, Nat.zero_add])
  have hoff := hide_ (show r * 1 + 1 ≤ cs1.length from by omega)
  have hfin := hide_ (show ∀ z : List Value, z.length = 1 → (cs1.take (r * 1) ++ z ++ cs1.drop (r * 1 + 1)).length = cap * 1 ∧ (cs1.take (r * 1) ++ z ++ cs1.drop (r * 1 + 1)).take (r * 1) = cs.take (i * 1) ++ (cs.drop (j * 1)).take ((n - j) * 1) from fun z hz => by
    refine ⟨by simp; omega, ?_⟩
    have e1 : (cs1.take (r * 1)).length = r * 1 := by simp; omega
    rw [List.append_assoc, List.take_left' e1, ← hnews, hcs1]
    have e2 : (cs.take (i * 1) ++ news).length = r * 1 := by simp; omega
    rw [List.take_left' e2])
  obtain ⟨v13, hv130⟩ : ∃ v13, (Value.slice (if n = i then some (⟨g, 0, none⟩ : Addr) else (some (⟨g, 0, none⟩ : Addr)).map (·.add (i * 1))) (j - i) (n - i) = v13) := ⟨_, rfl⟩
  have hv13 := hide_ hv130
  clear hB0 hsz0 hi0 h10 hA0 hsrc0 hnews hnl0 hcs1 hl1 hr hj hnc hv130
  go_enter Try.func31, Try.ntmps31
  go_wp2_with ((first
    | ((with_reducible refine at_cut ?_); refine w_slice Try.enP.elS _ _ _ _ v13 rfl rfl rfl (bounds_all hij.out hjn.out hnc'.out) hv13.out ?_)
    | fail) <;> (try simp only [Act.put, List.setIfInBounds_toArray, List.set_cons_zero, List.set_cons_succ]))
  refine wp_region_phx (by kernel_rfl) ?_; intro wd hxd
  refine Ph.gate 0 6 (by kernel_rfl) ?_
  refine LinL.step (s := (.val (.slice (some ⟨g, 0, none⟩) n cap))) [(0, none)] rfl (by kernel_rfl) (op_out 0 (.slice (some ⟨g, 0, none⟩) n cap) rfl (.inl rfl) rfl) ?_
  refine LinL.step (s := (.val (.int .i64 (i : Nat)))) [(1, none)] rfl (by kernel_rfl) (op_out 1 (.int .i64 (i : Nat)) rfl (.inl rfl) rfl) ?_
  refine LinL.step (s := (.val (.slice (some ⟨g, 0, none⟩) i cap))) [(20, some 1), (21, some 0)] rfl (by kernel_rfl) (op_runs rfl fun σ w' hx hg => ⟨_, runs_sto (ρ := σ.eval) (w := w') Try.enP.elS (.tmp 20) (.tmp 21) rfl hg.1 hg.2.1 hic.out, rfl⟩) ?_
  refine LinL.step (s := (.val (.slice (some ⟨g, 0, none⟩) n cap))) [(0, none)] rfl (by kernel_rfl) (op_out 0 (.slice (some ⟨g, 0, none⟩) n cap) rfl (.inl rfl) rfl) ?_
  refine LinL.step (s := (.val (.int .i64 (j : Nat)))) [(2, none)] rfl (by kernel_rfl) (op_out 2 (.int .i64 (j : Nat)) rfl (.inl rfl) rfl) ?_
  refine LinL.step (s := (.val (.slice (some A) (n - j) (cap - j)))) [(23, some 1), (24, some 0)] rfl (by kernel_rfl) (op_runs rfl fun σ w' hx hg => ⟨_, runs_sfrom (ρ := σ.eval) (w := w') Try.enP.elS (.tmp 23) (.tmp 24) rfl hg.1 hg.2.1 hjn.out hA.out, rfl⟩) ?_
  intro wN hxN
  simp only [Fin', List.reverse_cons, List.reverse_nil, List.nil_append, List.cons_append, List.drop_zero, List.take_succ_cons, List.take_zero]
  simp only [Act.put, List.setIfInBounds_toArray, List.set_cons_zero, List.set_cons_succ]
  have hBN := hide_ (hB.out.ext (hxd.trans hxN))
  refine wpOp_of_list rfl ?_
  refine w_appRoom Try.enP.elS _ _ (i := i) (m := n - j) (cap := cap) (c := cap - j) (A := A) (news := news) (cs := cs) rfl rfl rfl rfl hnl.out (hsrc.out _ hBN.out) h1.out hroom.out hBN.out hsz.out ?_
  intro w1 hm1 hB1
  rw [hr1.out]
  rw [hcs1'.out] at hB1
  replace hm1 := (((hxd.trans hxN).mod fun k => k = g).trans hm1 fun _ _ h => h)
  simp only [Act.put, List.setIfInBounds_toArray]
  show Ph Try.prog _ _ 7 _ _
  refine Ph.rest 7 1 (by kernel_rfl) ?_
  refine LinL.step (s := (.val (.slice (some ⟨g, 0, none⟩) r cap))) [(26, none)] rfl (by kernel_rfl) (op_out 26 (.slice (some ⟨g, 0, none⟩) r cap) rfl (.inr rfl) rfl) ?_
  intro w2 hx2
  simp only [Fin', List.reverse_cons, List.reverse_nil, List.nil_append, List.drop_succ_cons, List.drop_zero, List.take_succ_cons, List.take_zero]
  simp only [Act.put]
  replace hB1 := hide_ (hB1.ext hx2)
  replace hm1 := hm1.trans (hx2.mod fun k => k = g) fun _ _ h => h
  clear hxd hxN hx2 hBN
  go_wp2_with ((first
    | ((with_reducible refine at_cut ?_); refine w_slice Try.enP.elS _ _ _ _ _ rfl rfl rfl (bounds_cut hrn.out hnc'.out) hv.out ?_)
    | (refine w_clear1 Try.enP _ rfl rfl rfl rfl zPt1 hB1.out hoff.out ?_; intro w3 hm3 hB3; replace hm1 := hm1.trans hm3 fun _ _ h => h; clear hm3 hB1)
    | fail) <;> (try simp only [Act.put, List.setIfInBounds_toArray, List.set_cons_zero, List.set_cons_succ]))
  go_ret
  exact Keep.intro ⟨rfl, hm1, _, hB3, hfin.out _ rfl⟩

/-- The same, of a row. -/
theorem DelP_any {F : Nat → Prop} {w : World} {v : Value} {gs : List Nat} {i : Nat} {b : Int} (h : Row F w 68 v (gs.map PT)) (hi : i < gs.length) (hn : gs.length ≤ 4000) (hb : b = ((i + 1 : Nat) : Int)) :
    Calls Try.prog 31 #[v, .int .i64 (i : Nat), .int .i64 b] w fun e w' => ∃ v', e = .returned v' ∧ Mod F w w' ∧ Row F w' 68 v' ((gs.eraseIdx i).map PT) := by
  obtain ⟨⟨hl, hnil | ⟨g, cap, cur, rfl, _, hh, h1, h2, h3, h4⟩⟩, hin⟩ := h
  · have := hnil.2; simp at this; subst this; simp at hi
  · simp only [List.length_map, Nat.mul_one] at h1 h3 h4
    have hB : Blk w g 68 cur.toList := hh
    rw [show (gs.map PT).length = gs.length from List.length_map ..]
    have hc1 : cur.toList.length = cap := by rw [Array.length_toList, h3]
    have ho1 : ∀ u ∈ cur.toList.take (gs.length * 1), u.oneCell' = true := fun u hu => by rw [Nat.mul_one, h4] at hu; exact pt_one gs u hu
    refine (Delete_pt (n := gs.length) (cap := cap) (i := i) hB (by rw [Nat.mul_one]; exact hc1) hi hn h1 hb ho1).mono ?_
    rintro e w' ⟨rfl, hm, cs', hB', hl', ht'⟩
    have hle : (gs.eraseIdx i).length = gs.length - 1 := List.length_eraseIdx_of_lt hi
    have hlm : ((gs.eraseIdx i).map PT).length = gs.length - 1 := by rw [List.length_map, hle]
    have ht2 : cs'.take (gs.length - 1) = (gs.eraseIdx i).map PT := by
      rw [Nat.mul_one] at ht'
      rw [ht', List.eraseIdx_eq_take_drop_succ, List.map_append, List.map_take, List.map_drop, ← h4]
      congr 1
      · rw [List.take_take, Nat.min_eq_left (by omega), Nat.mul_one]
      · rw [List.drop_take, Nat.mul_one, Nat.mul_one]
    refine ⟨_, rfl, hm.mono fun k _ hk => by subst hk; exact hin _ rfl, ?_, fun k hk => hin k (by cases hk; rfl)⟩
    refine ⟨(Nat.mul_one _).symm, .inr ⟨g, cap, cs'.toArray, ?_, Nat.zero_le _, hB', ?_, h2, ?_, ?_⟩⟩
    · rw [hlm]
    · rw [hlm]; exact Nat.le_trans (Nat.sub_le _ _) h1
    · rw [List.size_toArray, hl', Nat.mul_one]
    · rw [hlm, Nat.mul_one]; exact ht2
end Go.Proofs.Ytkkbpmkeemfppaa
