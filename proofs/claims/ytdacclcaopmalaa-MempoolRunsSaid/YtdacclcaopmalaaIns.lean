/- slices.Insert of one transaction into a row that the call owns. -/
import Derived.Test.YtdacclcaopmalaaSlI
import Derived.Test.YtdacclcaopmalaaTXB
namespace Go.Proofs.Ytdacclcaopmalaa
set_option maxRecDepth 100000
open Go.RowKit

section
variable {P : Program} {ops : Array Oper} {rest : List Oper} {o : Oper} {a : Act} {Q : Exit → Act → World → Prop} {w : World} {t e : TypeId} {n : Nat}
/-- s[:j] and s[j:] of a row that begins its block. -/
theorem w_sto (E : ElS P t e n) (x y : Operand) {g len cap j : Nat} (hgd : o.guard = none) (ho : o.op = .slice t x none (some y) none) (hv : a.eval x = .slice (some ⟨g, 0, none⟩) len cap) (hy : a.eval y = .int .i64 (j : Int)) (h : j ≤ cap)
    (k : wpList P ops Q rest (a.put o.dst (.slice (some ⟨g, 0, none⟩) j cap)) w) : wpList P ops Q (o :: rest) a w := wpList_runs hgd (runs_sto E x y ho hv hy h) k
theorem from_at {g len cap j : Nat} (h : j < cap) : Value.slice (if cap = j then some (⟨g, 0, none⟩ : Addr) else (some (⟨g, 0, none⟩ : Addr)).map (·.add (j * n))) (len - j) (cap - j) = .slice (some ⟨g, j * n, none⟩) (len - j) (cap - j) := by
  rw [if_neg (by omega)]; simp only [Option.map_some, addr_add_off, Nat.zero_add]
theorem w_sfrom (E : ElS P t e n) (x y : Operand) {g len cap j : Nat} (hgd : o.guard = none) (ho : o.op = .slice t x (some y) none none) (hv : a.eval x = .slice (some ⟨g, 0, none⟩) len cap) (hy : a.eval y = .int .i64 (j : Int)) (h : j ≤ len) (hc : j < cap)
    (k : wpList P ops Q rest (a.put o.dst (.slice (some ⟨g, j * n, none⟩) (len - j) (cap - j))) w) : wpList P ops Q (o :: rest) a w := wpList_runs hgd (runs_sfrom E x y ho hv hy h (from_at hc)) k
end
section
variable {X row news : List Value} {i n : Nat}
theorem ins_cells1 (hr : row.length = 2) (hnl : news.length = (n - i) * 2) (hi : i < n) (hX : (n + 1) * 2 ≤ X.length) :
    ((X.take (i * 2) ++ row ++ X.drop (i * 2 + 2)).take ((i + 1) * 2) ++ news ++ (X.take (i * 2) ++ row ++ X.drop (i * 2 + 2)).drop ((i + 1) * 2 + news.length)).length = X.length ∧
    ((X.take (i * 2) ++ row ++ X.drop (i * 2 + 2)).take ((i + 1) * 2) ++ news ++ (X.take (i * 2) ++ row ++ X.drop (i * 2 + 2)).drop ((i + 1) * 2 + news.length)).take ((n + 1) * 2) = X.take (i * 2) ++ row ++ news := by
  have e1 : (X.take (i * 2) ++ row).length = (i + 1) * 2 := by simp [hr]; omega
  refine ⟨by simp [hr, hnl]; omega, ?_⟩
  rw [List.take_left' e1]
  exact List.take_left' (by rw [List.length_append, e1, hnl]; omega)
theorem ins_cells2 (hr : row.length = 2) (hnl : news.length = (n - i) * 2) (hi : i < n) (hX : (n + 1) * 2 ≤ X.length) :
    ((X.take ((i + 1) * 2) ++ news ++ X.drop ((i + 1) * 2 + news.length)).take (i * 2) ++ row ++ (X.take ((i + 1) * 2) ++ news ++ X.drop ((i + 1) * 2 + news.length)).drop (i * 2 + 2)).length = X.length ∧
    ((X.take ((i + 1) * 2) ++ news ++ X.drop ((i + 1) * 2 + news.length)).take (i * 2) ++ row ++ (X.take ((i + 1) * 2) ++ news ++ X.drop ((i + 1) * 2 + news.length)).drop (i * 2 + 2)).take ((n + 1) * 2) = X.take (i * 2) ++ row ++ news := by
  have e1 : (X.take ((i + 1) * 2)).length = i * 2 + 2 := by simp; omega
  have e2 : (X.take ((i + 1) * 2) ++ news ++ X.drop ((i + 1) * 2 + news.length)).take (i * 2) = X.take (i * 2) := by
    rw [List.append_assoc, List.take_append_of_le_length (by omega), List.take_take, Nat.min_eq_left (by omega)]
  refine ⟨by simp [hr, hnl]; omega, ?_⟩
  rw [e2, List.append_assoc (X.take ((i + 1) * 2)), List.drop_left' e1, ← List.append_assoc]
  exact List.take_left' (by simp [hr, hnl]; omega)
end
theorem insRows_flat {rows : List (List Value)} {row : List Value} {cs : List Value} {i : Nat} (hl : ∀ r ∈ rows, r.length = 2) (hi : i ≤ rows.length) (ht : cs.take (rows.length * 2) = rows.flatten) :
    (rows.take i ++ row :: rows.drop i).flatten = cs.take (i * 2) ++ row ++ (cs.drop (i * 2)).take ((rows.length - i) * 2) := by
  rw [List.flatten_append, List.flatten_cons, ← flat_take hl, ← flat_drop hl, ← ht, List.take_take, Nat.min_eq_left (by omega), List.drop_take, ← Nat.sub_mul]
  simp
theorem insRows_len {rows : List (List Value)} {row : List Value} {i : Nat} (hi : i ≤ rows.length) : (rows.take i ++ row :: rows.drop i).length = rows.length + 1 := by simp; omega

set_option maxRecDepth 100000 in
set_option maxHeartbeats 3200000 in
theorem Insert_any {F Fx : Nat → Prop} {w : World} {v x : Value} {rows : List (List Value)} {row : List Value} {i : Nat} (h0 : RowN F w 30 2 v rows) (hx0 : RowN Fx w 30 2 x [row]) (hsep : ∀ k, Fx k → ¬ F k) (hi : i ≤ rows.length) (hn : rows.length ≤ 16)
    (h1 : ∀ r ∈ rows, ∀ u ∈ r, u.oneCell' = true) (h1r : ∀ u ∈ row, u.oneCell' = true) :
    Calls Try.prog 44 #[v, .int .i64 (i : Nat), x] w fun e w' => ∃ v', e = .returned v' ∧ RowN (grow F w w') w' 30 2 v' (rows.take i ++ row :: rows.drop i) ∧ Mod F w w' := by
  refine calls_keep ?_
  have hrl : row.length = 2 := hx0.each _ (List.mem_cons_self ..)
  have hxs := hx0.slS
  rcases hx0.split with ⟨_, hh⟩ | ⟨gx, cx, csx, rfl, hFx, hBx0, hcx, hnx, hcmx, htx⟩
  · cases hh
  simp only [List.length_singleton, List.flatten_cons, List.flatten_nil, List.append_nil] at hnx htx hxs ⊢
  have hnews : ∀ j u, row[j]? = some u → w.cell? ((⟨gx, 0, none⟩ : Addr).add j) = some u := fun j u hj => by
    rw [add_zero_off]
    refine hBx0.cell ?_
    have hjl := (List.getElem?_eq_some_iff.1 hj).1
    rw [← htx, List.getElem?_take_of_lt (by omega)] at hj; exact hj
  obtain ⟨n, hnn⟩ : ∃ n, rows.length = n := ⟨_, rfl⟩
  by_cases he : i = rows.length
  · subst he
    obtain ⟨A, c, rfl, hnc, _⟩ := h0.slS
    have t1 : ((rows.length : Int) == (rows.length : Int)) = true := by simp
    have hbig := hide_ (show (rows.length + ([row] : List (List Value)).length) * 16 ≤ 140737488355328 from by simp; omega)
    have hone := hide_ (show ∀ y ∈ [row], ∀ u ∈ y, u.oneCell' = true from fun y hy => by rw [List.mem_singleton.1 hy]; exact h1r)
    have hle := hide_ (Nat.le_refl rows.length)
    have e1 := hide_ (show rows.take rows.length ++ row :: rows.drop rows.length = rows ++ [row] from by simp)
    replace h0 := hide_ h0
    replace hxs := hide_ hxs
    clear hi hsep h1 h1r hnews htx hBx0 hnn hFx hx0
    go_enter Try.func44, Try.ntmps44
    go_wp2_with ((first
      | ((with_reducible refine at_cut ?_); refine w_slice Try.elTx _ _ _ _ _ rfl rfl rfl (bounds_from hle.out) rfl ?_)
      | ((with_reducible refine at_bi ?_); refine w_napp Try.elTxN _ _ rfl rfl rfl rfl h0.out hxs.out (by simp) hone.out hbig.out ?_; intro v9 w7 hm7 hn7)
      | fail) <;> (try simp only [Act.put, List.setIfInBounds_toArray, List.set_cons_zero, List.set_cons_succ]))
    all_goals go_ret
    all_goals exact Keep.intro ⟨v9, rfl, (by first | exact hn7 | (rw [e1.out]; exact hn7)), hm7⟩
  have hlt : i < n := by omega
  rcases h0.split with ⟨_, hh⟩ | ⟨g, cap, cs, rfl, hFg, hB0, hcl, hnc, hcm, ht⟩
  · rw [hh] at hnn; simp at hnn; omega
  have hgx : ¬ gx = g := fun e => hsep gx hFx (e ▸ hFg)
  rw [hnn] at ht hnc hn
  obtain ⟨news, hnews2⟩ : ∃ news, (cs.drop (i * 2)).take ((n - i) * 2) = news := ⟨_, rfl⟩
  have hnl : news.length = (n - i) * 2 := by rw [← hnews2, List.length_take, List.length_drop]; omega
  have hsrc : ∀ w', Blk w' g 30 cs → ∀ j u, news[j]? = some u → w'.cell? ((⟨g, i * 2, none⟩ : Addr).add j) = some u := fun w' hw j u hj => by
    rw [addr_add_off]
    refine hw.cell ?_
    have hjl := (List.getElem?_eq_some_iff.1 hj).1
    rw [← hnews2, List.getElem?_take_of_lt (by omega), List.getElem?_drop] at hj
    exact hj
  have hone : ∀ u ∈ news, u.oneCell' = true := fun u hu => by
    rw [← hnews2] at hu
    obtain ⟨j, hj, rfl⟩ := List.getElem_of_mem hu
    have hm : cs[i * 2 + j]? = some ((List.take ((n - i) * 2) (List.drop (i * 2) cs))[j]) := by
      have := List.getElem?_eq_getElem hj
      rw [List.getElem?_take_of_lt (by simp at hj; omega), List.getElem?_drop] at this; exact this
    have hjl : j < (n - i) * 2 := by rw [hnews2, hnl] at hj; exact hj
    have hm2 : rows.flatten[i * 2 + j]? = some ((List.take ((n - i) * 2) (List.drop (i * 2) cs))[j]) := by rw [← ht, List.getElem?_take_of_lt (by omega)]; exact hm
    obtain ⟨r, hr, hu⟩ := List.mem_flatten.1 (List.mem_of_getElem? hm2)
    exact h1 r hr _ hu
  have t1 : ((i : Int) == (n : Int)) = false := by rw [beq_eq_false_iff_ne]; omega
  have hfl : (rows.take i ++ row :: rows.drop i).flatten = cs.take (i * 2) ++ row ++ news := by
    rw [insRows_flat h0.each hi (hnn ▸ ht), hnn, hnews2]
  have hil : (rows.take i ++ row :: rows.drop i).length = n + 1 := by rw [insRows_len hi, hnn]
  have heach : ∀ r ∈ rows.take i ++ row :: rows.drop i, r.length = 2 := fun r hr => by
    rcases List.mem_append.1 hr with hr | hr
    · exact h0.each r (List.mem_of_mem_take hr)
    · rcases List.mem_cons.1 hr with rfl | hr
      · exact hrl
      · exact h0.each r (List.mem_of_mem_drop hr)
  obtain ⟨rows', hrows'⟩ : ∃ rows', rows.take i ++ row :: rows.drop i = rows' := ⟨_, rfl⟩
  rw [hrows'] at hfl hil heach ⊢
  have hib : i ≤ 16 := by omega
  have hB := hide_ hB0
  have hBx := hide_ hBx0
  have hin := hide_ (show i ≤ n from by omega)
  have hnl' := hide_ hnl
  have hone' := hide_ hone
  have hone1 := hide_ h1r
  have hsrc' := hide_ hsrc
  rw [hnn] at *
  by_cases hroom : n + 1 ≤ cap
  · have t2 : decide ((cap : Int) < (n : Int) + 1) = false := decide_eq_false (by omega)
    have hov0 : ∀ lb cb, (callFunc 70 #[.slice (some ⟨gx, 0, none⟩) 1 cx, .slice (some ⟨g, (i + 1) * 2, none⟩) lb cb]).run Try.prog w = .ok (.value (.bool false)) w := fun lb cb => by
      rw [run_callFunc_extern Try.func70 (by kernel_rfl) (by kernel_rfl) (by kernel_rfl) (e := Extern.SlicesOverlaps.overlaps #[23, 23] #[4]) (by kernel_rfl),
        Lib.run_overlaps_apart w 23 4 30 Try.underlying23 2 Try.sizeOf30 ⟨gx, 0, none⟩ ⟨g, (i + 1) * 2, none⟩ 1 cx lb cb hgx 30 30 csx.length cs.length (by have h := hBx0; unfold Blk at h; simp [World.shape?, h]) (by have h := hB0; unfold Blk at h; simp [World.shape?, h]) (by omega) (hBx0.frozen _) (hBx0.frozen _)]
      rfl
    obtain ⟨hz1, hz2⟩ := ins_cells2 (X := cs) hrl hnl hlt (by omega)
    have c1 := hide_ (show i < cap from by omega)
    have c2 := hide_ (show i + 1 < cap from by omega)
    have c3 := hide_ (show i + 1 ≤ n + 1 from by omega)
    have c4 := hide_ (show i ≤ n + 1 from by omega)
    have c5 := hide_ hroom
    have s1 := hide_ (show news.length = Nat.min (n + 1 - i) (n + 1 - (i + 1)) * 2 from by rw [hnl, show Nat.min (n + 1 - i) (n + 1 - (i + 1)) = n - i from by show min _ _ = _; omega])
    have s2 := hide_ (show (i + 1) * 2 + news.length ≤ cs.length from by omega)
    have s3 := hide_ (show row.length = Nat.min 1 (n + 1 - i) * 2 from by rw [hrl, show Nat.min 1 (n + 1 - i) = 1 from by show min _ _ = _; omega])
    obtain ⟨cs1, hcs1⟩ : ∃ cs1, cs.take ((i + 1) * 2) ++ news ++ cs.drop ((i + 1) * 2 + news.length) = cs1 := ⟨_, rfl⟩
    have hcs1' := hide_ hcs1
    have s4 := hide_ (show i * 2 + row.length ≤ cs1.length from by rw [← hcs1]; simp; omega)
    have hrl' := hide_ hrl
    rw [hcs1] at hz1 hz2
    have hz3 := hide_ (show (cs1.take (i * 2) ++ row ++ cs1.drop (i * 2 + row.length)).take ((n + 1) * 2) = rows'.flatten from by rw [hrl]; exact hz2.trans hfl.symm)
    have hz4 := hide_ (show (cs1.take (i * 2) ++ row ++ cs1.drop (i * 2 + row.length)).length = cap * 2 from by rw [hrl]; exact hz1.trans hcl)
    have hil' := hide_ hil
    have heach' := hide_ heach
    have hcm' := hide_ hcm
    have hgx' := hide_ hgx
    have hFg' := hide_ hFg
    have hnews' := hide_ (fun w' (h : Blk w' gx 30 csx) => (fun j u hj => by
      rw [add_zero_off]
      refine h.cell ?_
      have hjl := (List.getElem?_eq_some_iff.1 hj).1
      rw [← htx, List.getElem?_take_of_lt (by omega)] at hj; exact hj : ∀ j u, row[j]? = some u → w'.cell? ((⟨gx, 0, none⟩ : Addr).add j) = some u))
    clear hfl hz1 hz2 hnews hnews2 hnl hone hsrc ht htx hcl hnc hil heach h0 hsep h1 h1r hB0 hBx0 hcs1 hrl hroom hcm hcmx hcx hi he hlt hgx hFg hFx hnx hrows' hnn
    go_enter Try.func44, Try.ntmps44
    go_wp2_with ((first
      | ((with_reducible refine at_cut ?_); refine w_sfrom Try.elTx _ _ rfl rfl rfl rfl hin.out c1.out ?_)
      | ((with_reducible refine at_cut ?_); refine w_sto Try.elTx _ _ (j := n + 1) rfl rfl rfl rfl c5.out ?_)
      | ((with_reducible refine at_cut ?_); refine w_sfrom Try.elTx _ _ (j := i + 1) rfl rfl rfl rfl c3.out c2.out ?_)
      | (simp only [hov0])
      | fail) <;> (try simp only [Act.put, List.setIfInBounds_toArray, List.set_cons_zero, List.set_cons_succ]))
    refine wp_region_phx (by kernel_rfl) ?_; intro wd hxd
    refine Ph.gate 0 8 (by kernel_rfl) ?_
    refine LinL.step (s := (.val (.slice (some ⟨g, 0, none⟩) (n + 1) cap))) [(0, none)] rfl (by kernel_rfl) (op_out 0 (.slice (some ⟨g, 0, none⟩) (n + 1) cap) rfl (.inl rfl) rfl) ?_
    refine LinL.step (s := (.val (.int .i64 (i : Nat)))) [(1, none)] rfl (by kernel_rfl) (op_out 1 (.int .i64 (i : Nat)) rfl (.inl rfl) rfl) ?_
    refine LinL.step (s := (.val (.int .i64 1))) [(7, none)] rfl (by kernel_rfl) (op_out 7 (.int .i64 1) rfl (.inl rfl) rfl) ?_
    refine LinL.step (s := (.val (.int .i64 ((i + 1 : Nat) : Int)))) [(70, some 1), (71, some 0)] rfl (by kernel_rfl) (op_runs rfl fun σ w' hx hg => ⟨_, runs_add (ρ := σ.eval) (w := w') (.tmp 70) (.tmp 71) (((i + 1 : Nat) : Int)) (by omega) (by omega) rfl hg.1 hg.2.1, rfl⟩) ?_
    refine LinL.step (s := (.val (.slice (some ⟨g, (i + 1) * 2, none⟩) (n + 1 - (i + 1)) (cap - (i + 1))))) [(69, some 3), (72, some 0)] rfl (by kernel_rfl) (op_runs rfl fun σ w' hx hg => ⟨_, runs_sfrom (ρ := σ.eval) (w := w') Try.elTx (.tmp 69) (.tmp 72) rfl hg.1 hg.2.1 c3.out (from_at c2.out), rfl⟩) ?_
    refine LinL.step (s := (.val (.slice (some ⟨g, 0, none⟩) (n + 1) cap))) [(0, none)] rfl (by kernel_rfl) (op_out 0 (.slice (some ⟨g, 0, none⟩) (n + 1) cap) rfl (.inl rfl) rfl) ?_
    refine LinL.step (s := (.val (.int .i64 (i : Nat)))) [(1, none)] rfl (by kernel_rfl) (op_out 1 (.int .i64 (i : Nat)) rfl (.inl rfl) rfl) ?_
    refine LinL.step (s := (.val (.slice (some ⟨g, i * 2, none⟩) (n + 1 - i) (cap - i)))) [(74, some 1), (75, some 0)] rfl (by kernel_rfl) (op_runs rfl fun σ w' hx hg => ⟨_, runs_sfrom (ρ := σ.eval) (w := w') Try.elTx (.tmp 74) (.tmp 75) rfl hg.1 hg.2.1 c4.out (from_at c1.out), rfl⟩) ?_
    intro wN hxN
    simp only [Fin', List.reverse_cons, List.reverse_nil, List.nil_append, List.cons_append, List.drop_zero, List.take_succ_cons, List.take_zero]
    simp only [Act.put, List.setIfInBounds_toArray, List.set_cons_zero, List.set_cons_succ]
    have hBN := hide_ (hB.out.ext (hxd.trans hxN))
    refine wpOp_of_list rfl ?_
    refine w_copyN Try.elTx _ _ (news := news) rfl rfl rfl rfl s1.out (hsrc'.out _ hBN.out) hone'.out hBN.out s2.out ?_; intro w1 hm1 hB1; rw [hcs1'.out] at hB1
    show Ph Try.prog _ _ 9 _ _
    refine Ph.rest 9 0 (by kernel_rfl) ?_
    intro wM hxM
    simp only [Fin', List.reverse_nil, List.drop_zero, List.drop_succ_cons, List.take_zero]
    replace hm1 := (((hxd.trans hxN).mod fun k => k = g).trans hm1 fun _ _ h => h).trans (hxM.mod _) fun _ _ h => h
    replace hB1 := hide_ (hB1.ext hxM)
    have hBx2 := hide_ (hBx.out.mod hm1 hgx'.out)
    clear hxd hxN hxM hBN hov0
    go_wp2_with ((first
      | ((with_reducible refine at_cut ?_); refine w_sfrom Try.elTx _ _ rfl rfl rfl rfl c4.out c1.out ?_)
      | ((with_reducible refine at_bi ?_); refine w_copyN Try.elTx _ _ (news := row) rfl rfl rfl rfl s3.out (hnews'.out _ hBx2.out) hone1.out hB1.out s4.out ?_; intro w3 hm3 hB3; replace hm1 := hm1.trans hm3 (fun _ _ h => h); clear hm3 hB1)
      | fail) <;> (try simp only [Act.put, List.setIfInBounds_toArray, List.set_cons_zero, List.set_cons_succ]))
    go_ret
    refine Keep.intro ⟨_, rfl, ?_, hm1.mono fun k _ e => e ▸ hFg'.out⟩
    have hl2 := hil'.out
    show RowN _ _ _ _ (.slice (some ⟨g, 0, none⟩) (n + 1) cap) _
    rw [← hl2]
    exact RowN.ofBlk hB3 hz4.out (by rw [hl2]; exact c5.out) hcm'.out heach'.out (by rw [hl2]; exact hz3.out) (.inl hFg'.out)
  · have t2 : decide ((cap : Int) < (n : Int) + 1) = true := decide_eq_true (by omega)
    have hkk := hide_ (show Value.int .i64 ((n : Int) + 1 - (i : Int)) = .int .i64 ((n + 1 - i : Nat) : Int) from by congr 1; omega)
    have hik := hide_ (show i + (n + 1 - i) = n + 1 from by omega)
    have c0 := hide_ (show 0 < n + 1 - i from by omega)
    have c1 := hide_ (show i < cap from by omega)
    have c2 := hide_ (show i ≤ cap from by omega)
    have c3 := hide_ (show i + 1 ≤ n + 1 from by omega)
    have c4 := hide_ (show i ≤ n + 1 from by omega)
    have c5 := hide_ (show i < n + 1 from by omega)
    have c6 := hide_ (show i + 1 < n + 1 from by omega)
    have c7 := hide_ (show cap < i + (n + 1 - i) from by omega)
    have c8 := hide_ (show (i + (n + 1 - i)) * 16 ≤ 140737488355328 from by omega)
    have c9 := hide_ (show i * 2 ≤ cs.length from by omega)
    have s1 := hide_ (show news.length = Nat.min (n - i) (n + 1 - (i + 1)) * 2 from by rw [hnl, show Nat.min (n - i) (n + 1 - (i + 1)) = n - i from by show min _ _ = _; omega])
    have s3 := hide_ (show row.length = Nat.min 1 (n + 1 - i) * 2 from by rw [hrl, show Nat.min 1 (n + 1 - i) = 1 from by show min _ _ = _; omega])
    have hrl' := hide_ hrl
    have hz := hide_ (fun (X : List Value) (c : Nat) (h : X.length = c * 2) (hc : n + 1 ≤ c) => ins_cells1 (X := X) (row := row) (news := news) hrl hnl hlt (by omega))
    have hfl' := hide_ hfl
    have hil' := hide_ hil
    have heach' := hide_ heach
    have hglt := hide_ hB0.lt
    have hnews' := hide_ (fun w' (h : Blk w' gx 30 csx) => (fun j u hj => by
      rw [add_zero_off]
      refine h.cell ?_
      have hjl := (List.getElem?_eq_some_iff.1 hj).1
      rw [← htx, List.getElem?_take_of_lt (by omega)] at hj; exact hj : ∀ j u, row[j]? = some u → w'.cell? ((⟨gx, 0, none⟩ : Addr).add j) = some u))
    clear hfl hnews hnews2 hnl hone hsrc ht htx hcl hnc hil heach h0 hsep h1 h1r hB0 hBx0 hrl hroom hcm hcmx hcx hi he hlt hgx hFg hFx hnx hrows' hnn
    go_enter Try.func44, Try.ntmps44
    go_wp2_with ((first
      | ((with_reducible refine at_cut ?_); refine w_sfrom Try.elTx _ _ rfl rfl rfl rfl hin.out c1.out ?_)
      | ((with_reducible refine at_cut ?_); refine w_sfrom Try.elTx _ _ rfl rfl rfl rfl c4.out (Nat.lt_of_lt_of_le c5.out hc') ?_)
      | ((with_reducible refine at_cut ?_); refine w_sto Try.elTx _ _ (j := i) rfl rfl rfl rfl c2.out ?_)
      | ((with_reducible refine at_bi ?_); refine w_nappz Try.elTxN Try.underlying3 _ _ (i := i) (c := cap) (k := n + 1 - i) rfl rfl rfl hkk.out c0.out c7.out c8.out hB.out c9.out ?_; intro g' c' w1 cs1 hg' hx hc' hcm' hB1 hcl1 htk1; rw [hik.out] at hc' ⊢)
      | ((with_reducible refine at_bi ?_); refine w_copyN Try.elTx _ _ (news := row) rfl rfl rfl rfl s3.out (hnews'.out _ (hBx.out.ext hx)) hone1.out hB1 (by rw [hcl1, hrl'.out]; have h1 := hc'; have h2 := c5.out; omega) ?_; intro w2 hm2 hB2; rw [hrl'.out] at hB2; have hBo := (hB.out.ext hx).mod hm2 (fun e => by have := hglt.out; omega); replace hx := hm2.after hx (fun k hk => hk ▸ hg'); clear hm2 hB1)
      | fail) <;> (try simp only [Act.put, List.setIfInBounds_toArray, List.set_cons_zero, List.set_cons_succ]))
    obtain ⟨hz1, hz2⟩ := hz.out cs1 c' hcl1 hc'
    have hz1' := hide_ (hz1.trans hcl1)
    have hz2' := hide_ ((hz2.trans (by rw [htk1] : _ = cs.take (i * 2) ++ row ++ news)).trans hfl'.out.symm)
    have c10 := hide_ (Nat.lt_of_lt_of_le c6.out hc')
    have s2 : Hid ((i + 1) * 2 + news.length ≤ (cs1.take (i * 2) ++ row ++ cs1.drop (i * 2 + 2)).length) := hide_ (by
      have h1 := s1.out; have h2 := hrl'.out; have h3 := hc'; have h4 := c5.out
      rw [show Nat.min (n - i) (n + 1 - (i + 1)) = n - i from by show min _ _ = _; omega] at h1
      simp [hcl1, h2, h1]; omega)
    have hcl1' := hide_ hcl1
    have hc1 := hide_ hc'
    have hcm1 := hide_ hcm'
    have hgn := hide_ hg'
    clear hz1 hz2 htk1 hcl1 hc' hcm' hg'
    refine wp_region_phx (by kernel_rfl) ?_; intro wd hxd
    refine Ph.gate 0 8 (by kernel_rfl) ?_
    refine LinL.step (s := (.val (.slice (some ⟨g', 0, none⟩) (n + 1) c'))) [(9, none)] rfl (by kernel_rfl) (op_out 9 (.slice (some ⟨g', 0, none⟩) (n + 1) c') rfl (.inl rfl) rfl) ?_
    refine LinL.step (s := (.val (.int .i64 (i : Nat)))) [(1, none)] rfl (by kernel_rfl) (op_out 1 (.int .i64 (i : Nat)) rfl (.inl rfl) rfl) ?_
    refine LinL.step (s := (.val (.int .i64 1))) [(7, none)] rfl (by kernel_rfl) (op_out 7 (.int .i64 1) rfl (.inl rfl) rfl) ?_
    refine LinL.step (s := (.val (.int .i64 ((i + 1 : Nat) : Int)))) [(47, some 1), (48, some 0)] rfl (by kernel_rfl) (op_runs rfl fun σ w' hx hg => ⟨_, runs_add (ρ := σ.eval) (w := w') (.tmp 47) (.tmp 48) (((i + 1 : Nat) : Int)) (by omega) (by omega) rfl hg.1 hg.2.1, rfl⟩) ?_
    refine LinL.step (s := (.val (.slice (some ⟨g', (i + 1) * 2, none⟩) (n + 1 - (i + 1)) (c' - (i + 1))))) [(46, some 3), (49, some 0)] rfl (by kernel_rfl) (op_runs rfl fun σ w' hx hg => ⟨_, runs_sfrom (ρ := σ.eval) (w := w') Try.elTx (.tmp 46) (.tmp 49) rfl hg.1 hg.2.1 c3.out (from_at c10.out), rfl⟩) ?_
    refine LinL.step (s := (.val (.slice (some ⟨g, 0, none⟩) n cap))) [(0, none)] rfl (by kernel_rfl) (op_out 0 (.slice (some ⟨g, 0, none⟩) n cap) rfl (.inl rfl) rfl) ?_
    refine LinL.step (s := (.val (.int .i64 (i : Nat)))) [(1, none)] rfl (by kernel_rfl) (op_out 1 (.int .i64 (i : Nat)) rfl (.inl rfl) rfl) ?_
    refine LinL.step (s := (.val (.slice (some ⟨g, i * 2, none⟩) (n - i) (cap - i)))) [(51, some 1), (52, some 0)] rfl (by kernel_rfl) (op_runs rfl fun σ w' hx hg => ⟨_, runs_sfrom (ρ := σ.eval) (w := w') Try.elTx (.tmp 51) (.tmp 52) rfl hg.1 hg.2.1 hin.out (from_at c1.out), rfl⟩) ?_
    intro wN hxN
    simp only [Fin', List.reverse_cons, List.reverse_nil, List.nil_append, List.cons_append, List.drop_zero, List.take_succ_cons, List.take_zero]
    simp only [Act.put, List.setIfInBounds_toArray, List.set_cons_zero, List.set_cons_succ]
    have hBN := hide_ (hBo.ext (hxd.trans hxN))
    have hBN2 := hide_ (hB2.ext (hxd.trans hxN))
    refine wpOp_of_list rfl ?_
    refine w_copyN Try.elTx _ _ (news := news) rfl rfl rfl rfl s1.out (hsrc'.out _ hBN.out) hone'.out hBN2.out s2.out ?_; intro w3 hm1 hB1
    show Ph Try.prog _ _ 9 _ _
    refine Ph.rest 9 0 (by kernel_rfl) ?_
    intro wM hxM
    simp only [Fin', List.reverse_nil, List.drop_zero, List.drop_succ_cons, List.take_zero]
    have hx2 := (hm1.after (hx.trans (hxd.trans hxN)) (fun k hk => hk ▸ hgn.out)).trans hxM
    replace hB1 := hB1.ext hxM
    go_wp2
    go_ret
    refine Keep.intro ⟨_, rfl, ?_, hx2.mod _⟩
    have hl2 := hil'.out
    show RowN _ _ _ _ (.slice (some ⟨g', 0, none⟩) (n + 1) c') _
    rw [← hl2]
    exact RowN.ofBlk hB1 hz1'.out (by rw [hl2]; exact hc1.out) hcm1.out heach'.out (by rw [hl2]; exact hz2'.out) (.inr ⟨hgn.out, hB1.lt⟩)
end Go.Proofs.Ytdacclcaopmalaa
