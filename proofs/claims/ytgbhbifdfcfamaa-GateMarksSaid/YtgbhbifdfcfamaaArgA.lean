/- What parameters read as: arrays of integers; lists of lists of bytes. -/
import Derived.Test.YtgbhbifdfcfamaaFL
import Derived.Test.YtgbhbifdfcfamaaTag
import Derived.Deep.Matrix
namespace Go.Proofs.Ytgbhbifdfcfamaa
set_option maxRecDepth 100000
open Go.RowKit Go.ChangeShapes Go.WideShapes Go.ChangeAt

theorem mapM_each {α β : Type} {f : α → Option β} : ∀ (l : List α) {ys : List β}, l.mapM f = some ys → ∀ a ∈ l, ∃ y, f a = some y
  | [], _, _, a, h => by simp at h
  | b :: l, ys, h, a, ha => by
    rw [List.mapM_cons] at h
    simp only [bind, Option.bind_eq_some_iff, pure, Option.some.injEq] at h
    obtain ⟨y, hy, ys', hys, _⟩ := h
    rcases List.mem_cons.1 ha with rfl | ha
    · exact ⟨y, hy⟩
    · exact mapM_each l hys a ha

section
variable {H : Type} {enc : TypeId × Value → H} {P : Program} {W : World} {base b0 : Nat} {sp : Nat → Bool} {held : Bool} {v : Value} {d : DataW H} {ps : List MemPlace}
/-- The integer that a cell holds. -/
def cellInt : Value → Int
  | .int _ z => z
  | _ => 0
theorem open_int_array {t e : TypeId} {n : Nat} {q : IntKind} (hu : P.underlying t = some (.array n e)) (he : P.underlying e = some (.int q)) (ce : P.cellsOf e = 1) (ct : P.cellsOf t = n)
    (hval : Value.okWide P W .any base t v) (h : DataW.Trod enc P W b0 sp held t v d ps) : ∃ zs : List Int, v = .agg (zs.map (Value.int q)).toArray ∧ zs.length = n ∧ ∀ z ∈ zs, (Lit.int q z).wf = true := by
  simp only [Value.okWide, hu] at hval
  obtain ⟨cs, rfl, hsz, _⟩ := hval
  rw [ct] at hsz
  obtain ⟨fuel, hf⟩ := h
  cases fuel with
  | zero => simp [DataW.trod] at hf
  | succ m =>
    rw [DataW.trod_step] at hf
    unfold DataW.trodStep at hf
    simp only [hu, Value.cells] at hf
    rw [if_pos (by rw [ct]; simpa using hsz)] at hf
    simp only [Option.map_eq_some_iff] at hf
    obtain ⟨ys, hy, _⟩ := hf
    have each : ∀ i (hi : i < cs.toList.length), ∃ a, cs.toList[i] = .int q a ∧ (Lit.int q a).wf = true := by
      intro i hi
      obtain ⟨y, hyi⟩ := mapM_each _ hy i (List.mem_range.2 (by simp at hi; omega))
      rw [ce, Nat.mul_one, List.drop_eq_getElem_cons hi, List.take_succ_cons, List.take_zero] at hyi
      obtain ⟨a, ea, _, wa⟩ := DataW.trod_int he hyi
      exact ⟨a, by simpa using ea, wa⟩
    refine ⟨cs.toList.map cellInt, ?_, by simpa using hsz, ?_⟩
    · congr 1
      have : (cs.toList.map cellInt).map (Value.int q) = cs.toList := by
        rw [List.map_map]
        apply List.ext_getElem (by simp)
        intro i h1 h2
        obtain ⟨a, ha, _⟩ := each i h2
        simp only [List.getElem_map, Function.comp, ha, cellInt]
      rw [this]
    · intro z hz
      obtain ⟨u, hu', rfl⟩ := List.mem_map.1 hz
      obtain ⟨i, hi, rfl⟩ := List.getElem_of_mem hu'
      obtain ⟨a, ha, wa⟩ := each i hi
      rw [ha]; exact wa
theorem open_int_array2 {t e : TypeId} {q : IntKind} (hu : P.underlying t = some (.array 2 e)) (he : P.underlying e = some (.int q)) (ce : P.cellsOf e = 1) (ct : P.cellsOf t = 2)
    (hval : Value.okWide P W .any base t v) (h : DataW.Trod enc P W b0 sp held t v d ps) : ∃ x y : Int, v = .agg #[.int q x, .int q y] ∧ (Lit.int q x).wf = true ∧ (Lit.int q y).wf = true := by
  obtain ⟨zs, rfl, hl, hw⟩ := open_int_array hu he ce ct hval h
  match zs, hl with
  | [x, y], _ => exact ⟨x, y, rfl, hw x (by simp), hw y (by simp)⟩
end

/-! ### How much is read -/
theorem bulk_one {H : Type} (d : DataW H) : 1 ≤ Rows.uptoBulk d := by
  cases d with
  | lit l => cases l <;> simp [Rows.uptoBulk]
  | _ => simp [Rows.uptoBulk]
theorem bulk_len {H : Type} : ∀ l : List (DataW H), l.length ≤ Rows.uptoBulkAll l
  | [] => by simp
  | d :: l => by
    have h1 := bulk_one d
    have h2 := bulk_len l
    simp only [Rows.uptoBulkAll, List.length_cons]; omega
theorem bulk_rows {H : Type} (A : Nat → Option Addr) (L : Nat → Nat) (Z : Nat → List Int) : ∀ rs : List Nat, (∀ r ∈ rs, L r ≤ (Z r).length ∧ (A r = none → L r = 0)) →
    (rs.map fun r => ((Z r).take (L r)).map Int.toNat).flatten.length ≤ Rows.uptoBulkAll (rs.map fun r => (Deep.intRow (H := H) .u8 (A r) (L r) (Z r)))
  | [], _ => by simp
  | r :: rs, h => by
    have h1 := bulk_rows (H := H) A L Z rs fun x hx => h x (List.mem_cons_of_mem _ hx)
    obtain ⟨h2, h3⟩ := h r (List.mem_cons_self ..)
    simp only [List.map_cons, List.flatten_cons, List.length_append, Rows.uptoBulkAll, List.length_map, List.length_take]
    have h4 : L r ≤ Rows.uptoBulk (Deep.intRow (H := H) .u8 (A r) (L r) (Z r)) := by
      unfold Deep.intRow
      cases hA : A r with
      | none => rw [h3 hA]; omega
      | some a =>
        have h5 := bulk_len (lits (H := H) .u8 ((Z r).take (L r)))
        simp only [Rows.uptoBulk]
        simp only [lits, List.length_map, List.length_take] at h5
        simp only [lits]
        omega
    omega

theorem byt_row {W : World} {A : Option Addr} {L C : Nat} {Z : List Int} (hL : L ≤ C) (hC : C ≤ maxLen) (hZ : Z.length = C) (hw : ∀ n ∈ Z, (Lit.int .u8 n).wf = true) (hn : A = none → C = 0)
    (hc : ∀ a', A = some a' → ∀ c, c < C → W.cell? (a'.add c) = some (.int .u8 (Z.getD c 0))) : Byt W (.slice A L C) ((Z.take L).map Int.toNat) := by
  have hwn : ∀ n ∈ Z, 0 ≤ n ∧ n < 256 := fun n hn => by
    have := hw n hn
    simp [Lit.wf, IntKind.min, IntKind.max, IntKind.signed, IntKind.bits] at this
    omega
  have hul : u8s ((Z.take L).map Int.toNat) = (Z.take L).map (Value.int .u8) := by
    unfold u8s; rw [List.map_map]
    refine List.map_congr_left fun n hn => ?_
    have := hwn n (List.mem_of_mem_take hn)
    simp only [Function.comp]
    rw [Int.toNat_of_nonneg this.1]
  unfold Byt; rw [hul]
  refine ⟨A, C, by simp; omega, by simp; omega, hC, fun k u hk => ?_⟩
  rw [List.getElem?_map, List.getElem?_take] at hk
  split at hk
  · have hkz : k < Z.length := by omega
    cases A with
    | none => have := hn rfl; omega
    | some a =>
      refine ⟨a, rfl, ?_⟩
      rw [hc a rfl k (by omega)]
      rw [List.getElem?_eq_getElem hkz] at hk
      simp at hk
      subst hk
      simp [List.getD, List.getElem?_eq_getElem hkz]
  · simp at hk

section
variable {H : Type} {enc : TypeId × Value → H} {W : World} {base : Nat} {v : Value} {d : DataW H} {ps : List MemPlace}
/-- A list of lists of bytes. -/
theorem arg_parts (hval : Value.okWide Try.prog W .any base 29 v) (h : DataW.Trod enc Try.prog W 0 (fun _ => true) true 29 v d ps) :
    ∃ ls : List (List Nat), Parts W v ls ∧ (∀ l ∈ ls, ∀ x ∈ l, x < 256) ∧ ls.flatten.length ≤ Rows.uptoBulk d := by
  obtain ⟨a0, len0, cap0, rfl⟩ := okWide_slice Try.underlying29 hval
  obtain ⟨fuel, hf⟩ := h
  rcases Deep.open_int_rows Try.underlying29 Try.underlying33 Try.underlying5 (by kernel_rfl) (by kernel_rfl) hf with ⟨h1, _⟩ | ⟨a, len, cap, A, L, C, Z, h1, _, hlc, hcm, hx, hr⟩
  · simp only [Value.cells] at h1
    injection h1 with h1; injection h1 with e1 e2 e3
    subst e1 e2 e3
    exact ⟨[], Parts.nil W, by simp, by simp⟩
  · simp only [Value.cells] at h1
    injection h1 with h1; injection h1 with e1 e2 e3
    subst e1 e2 e3
    have hd : d = .slice ((List.range len0).map fun r => Deep.intRow .u8 (A r) (L r) (Z r)) ((List.range (cap0 - len0)).map fun j => Deep.intRow .u8 (A (len0 + j)) (L (len0 + j)) (Z (len0 + j))) := by
      have := congrArg Prod.fst hx; simpa using this
    refine ⟨(List.range len0).map fun r => ((Z r).take (L r)).map Int.toNat, ⟨(List.range len0).map fun r => .slice (A r) (L r) (C r), ⟨some a, cap0, by simp, by simpa using hlc, hcm, fun k u hk => ⟨a, rfl, ?_⟩⟩, by simp, fun k u l hu hl => ?_⟩, ?_, ?_⟩
    · obtain ⟨hk', hu⟩ := List.getElem?_eq_some_iff.1 hk
      simp at hk' hu
      rw [(hr k (by omega)).1, hu]
    · obtain ⟨hk', hu⟩ := List.getElem?_eq_some_iff.1 hu
      obtain ⟨_, hl⟩ := List.getElem?_eq_some_iff.1 hl
      simp only [List.length_map, List.length_range] at hk'
      simp only [List.getElem_map, List.getElem_range] at hu hl
      subst hu hl
      obtain ⟨_, g2, g3, g4, g5, g6, g7⟩ := hr k (by omega)
      exact byt_row g2 g3 g4 g5 g6 fun a' ha => (g7 a' ha).2
    · intro l hl x hx'
      obtain ⟨r, hrr, rfl⟩ := List.mem_map.1 hl
      obtain ⟨n, hn, rfl⟩ := List.mem_map.1 hx'
      have hrl : r < len0 := List.mem_range.1 hrr
      have := (hr r (by omega)).2.2.2.2.1 n (List.mem_of_mem_take hn)
      simp [Lit.wf, IntKind.min, IntKind.max, IntKind.signed, IntKind.bits] at this
      omega
    · have h2 := bulk_rows (H := H) A L Z (List.range len0) fun r hrr => by
        have hrl : r < len0 := List.mem_range.1 hrr
        obtain ⟨_, g2, g3, g4, g5, g6, g7⟩ := hr r (by omega)
        exact ⟨by omega, fun e => by have := g6 e; omega⟩
      rw [hd]
      simp only [Rows.uptoBulk]
      omega
end
end Go.Proofs.Ytgbhbifdfcfamaa
