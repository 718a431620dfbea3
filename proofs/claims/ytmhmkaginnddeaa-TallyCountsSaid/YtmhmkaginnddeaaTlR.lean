/- The document's tally: votes as records; what a node voted. -/
import Derived.Test.YtmhmkaginnddeaaTlG
namespace Go.Proofs.Ytmhmkaginnddeaa
set_option maxRecDepth 100000
open Go.RowKit

instance : Inhabited VtD := ⟨⟨0, 0, 0, 0⟩⟩
structure VtD.Fit (d : VtD) : Prop where
  k : -9223372036854775808 ≤ d.k ∧ d.k ≤ 9223372036854775807
  w : -9223372036854775808 ≤ d.w ∧ d.w ≤ 9223372036854775807
  f : -9223372036854775808 ≤ d.f ∧ d.f ≤ 9223372036854775807
  x : -9223372036854775808 ≤ d.x ∧ d.x ≤ 9223372036854775807
/-- The cells of a record. -/
def VtR (_w : World) (row : List Value) (d : VtD) : Prop := (row = [.int .i64 d.k, .int .i64 d.w, .int .i64 d.f, .int .i64 d.x]) ∧ d.Fit
theorem VtR.stays : Stays VtR := fun _ _ _ _ h _ => h
theorem Try.stVt : St Try.prog 33 4 [.int .i64 0, .int .i64 0, .int .i64 0, .int .i64 0] := St.of (by kernel_rfl) (by kernel_rfl) rfl
theorem Try.elVt : ElS Try.prog 31 33 4 := ElS.of Try.underlying31 (by kernel_rfl)
theorem Try.elVtN : ElN Try.prog 31 33 4 32 (.agg #[.int .i64 0, .int .i64 0, .int .i64 0, .int .i64 0]) := ElN.of Try.underlying31 (by kernel_rfl) rfl (by omega) (by omega)
theorem Try.stTy : St Try.prog 36 2 [.slice none 0 0, .slice none 0 0] := St.of (by kernel_rfl) (by kernel_rfl) rfl
/-- The cells of a vote. -/
def vrow (d : VtD) : List Value := [.int .i64 d.k, .int .i64 d.w, .int .i64 d.f, .int .i64 d.x]
theorem vt_one (d : VtD) : ∀ u ∈ vrow d, u.oneCell' = true := by intro u hu; simp [vrow] at hu; rcases hu with rfl | rfl | rfl | rfl <;> rfl
/-- u is a slice of these votes. -/
def Vts (w : World) (u : Value) (l : List VtD) : Prop := Recs 4 VtR w u l
theorem Vts.ext {w w' : World} {u : Value} {l : List VtD} (h : Vts w u l) (he : Ext w w') : Vts w' u l := Recs.ext VtR.stays h he
theorem Vts.fit {w : World} {u : Value} {l : List VtD} (h : Vts w u l) : ∀ d ∈ l, d.Fit := by
  obtain ⟨rows, _, hl, hr⟩ := h
  intro d hd
  obtain ⟨k, hk, rfl⟩ := List.getElem_of_mem hd
  exact (hr k _ _ (List.getElem?_eq_getElem (by omega)) (List.getElem?_eq_getElem hk)).2
theorem Vts.slS {w : World} {u : Value} {l : List VtD} (h : Vts w u l) : SlS w u 4 (l.map vrow) := by
  obtain ⟨rows, h1, hl, hr⟩ := h
  have : rows = l.map vrow := by
    refine List.ext_getElem (by rw [List.length_map, hl]) fun k h1 h2 => ?_
    rw [List.getElem_map]
    exact (hr k _ _ (List.getElem?_eq_getElem h1) (List.getElem?_eq_getElem (by omega))).1
  rw [← this]; exact h1
theorem vts_of {F : Nat → Prop} {w : World} {u : Value} {l : List VtD} (h : RowN F w 33 4 u (l.map vrow)) (hf : ∀ d ∈ l, d.Fit) : Vts w u l :=
  h.recs (by rw [List.length_map]) fun k row d hrow hd => by
    rw [List.getElem?_map, hd] at hrow
    injection hrow with hrow
    exact ⟨hrow.symm, hf d (List.mem_of_getElem? hd)⟩
theorem Vts.nil (w : World) : Vts w (.slice none 0 0) [] := vts_of (F := fun _ => False) (RowN.nil w _ 4) (by simp)
/-- The document's tally: stakes and votes. -/
def Ty (w : World) (sv u : Value) (t : List Int) (l : List VtD) : Prop := Ints w sv t ∧ Vts w u l
theorem Ty.ext {w w' : World} {sv u : Value} {t : List Int} {l : List VtD} (h : Ty w sv u t l) (he : Ext w w') : Ty w' sv u t l := ⟨h.1.ext he, h.2.ext he⟩
/-- What a node of whatever number voted. -/
def lookV : List VtD → Int → Int → Int → Option Int
  | [], _, _, _ => none
  | d :: l, k, v, j => if d.k = k ∧ d.w = v ∧ d.f = j then some d.x else lookV l k v j
theorem lookV_nat (l : List VtD) (k v : Int) (i : Nat) : lookV l k v i = ofV l k v i := by
  induction l with
  | nil => rfl
  | cons d l ih => unfold lookV ofV; rw [ih]
theorem lookV_fat {l : List VtD} (hl : ∀ d ∈ l, 0 ≤ d.f) (k v j : Int) : lookV l k v j = fat (ofV l k v) j := by
  unfold fat
  split
  · induction l with
    | nil => rfl
    | cons d l ih =>
      unfold lookV
      rw [if_neg (fun h => by have := hl d (List.mem_cons_self ..); omega)]
      exact ih fun e he => hl e (List.mem_cons_of_mem _ he)
  · rw [← lookV_nat, Int.toNat_of_nonneg (by omega)]
theorem lookV_drop {l : List VtD} {i : Nat} (hi : i < l.length) {d : VtD} (hd : l[i] = d) (k v j : Int) : lookV (l.drop i) k v j = if d.k = k ∧ d.w = v ∧ d.f = j then some d.x else lookV (l.drop (i + 1)) k v j := by
  rw [List.drop_eq_getElem_cons hi, hd]; rfl

set_option maxRecDepth 100000 in
set_option maxHeartbeats 3200000 in
theorem Of_any {w : World} {sv u : Value} {t : List Int} {l : List VtD} {k v j : Int} (h : Ty w sv u t l) (hlen0 : l.length ≤ 100000) {r : Option Int} (hr0 : lookV l k v j = r) :
    Calls Try.prog 18 #[.agg #[sv, u], .int .i64 k, .int .i64 v, .int .i64 j] w fun e w' => e = .returned (.tuple #[.int .i64 (r.getD 0), .bool r.isSome]) ∧ Ext w w' := by
  refine calls_keep ?_
  have hl := hide_ (show Recs 4 VtR w u l from h.2)
  have hlen := hide_ hlen0
  have hr := hide_ hr0
  have hX := Ext.refl w
  clear h hr0 hlen0
  go_enter Try.func18, Try.ntmps18
  go_wp2_with ((first
    | ((with_reducible refine at_box ?_); refine w_box _ [sv, u] rfl rfl rfl rfl ?_; intro b4 w1 hb4 hx f4; replace hX := hX.trans hx; clear hx)
    | ((with_reducible refine at_field ?_); refine w_field Try.stTy _ _ _ rfl rfl rfl (by omega) ?_)
    | ((with_reducible refine at_load ?_); refine w_fload _ rfl rfl rfl f4 rfl (agg_of (by kernel_rfl)) ?_)
    | ((with_reducible refine at_bi ?_); refine w_rlen Try.elVt _ rfl rfl rfl (hl.out.ext VtR.stays hX) ?_)
    | fail) <;> (try simp only [Act.put, List.setIfInBounds_toArray, List.set_cons_zero, List.set_cons_succ]))
  go_loopw [15] (fun u15 wr => ∃ i : Nat, u15 = .int .i64 i ∧ i ≤ l.length ∧ Hid (lookV (l.drop i) k v j = r) ∧ Ext w wr) (fun i _ => l.length - (intOf i).toNat)
  case atStart => exact ⟨0, rfl, Nat.zero_le _, hr.out, hX⟩
  case round =>
    clear hX
    obtain ⟨i, rfl, hi, hno, hX⟩ := hrel
    by_cases hlt0 : i < l.length
    · have hlt := hide_ hlt0
      have tl : decide (i < l.length) = true := decide_eq_true hlt0
      have hi7 : i ≤ 100000 := by have := hlen.out; omega
      obtain ⟨d, hd0⟩ : ∃ d, l[i] = d := ⟨_, rfl⟩
      have hd := hide_ hd0
      have hstep := hide_ ((lookV_drop hlt0 hd0 k v j).symm.trans hno.out)
      clear hd0 hlt0 hno
      cases c1 : (d.k == k)
      · have hs := hide_ (show lookV (l.drop (i + 1)) k v j = r from by have := hstep.out; rwa [if_neg (fun h => by simp [h.1] at c1)] at this)
        go_wp2_with ((first
          | go_big_skip
          | ((with_reducible refine at_idx ?_); refine w_ridx0 Try.elVt _ _ i VtR.stays rfl rfl rfl rfl hl.out hX hlt.out ?_; rintro p row hrow hrl hre; obtain ⟨rfl, _⟩ := (congrArg (fun z => VtR w row z) hd.out).mp hre)
          | ((with_reducible refine at_load ?_); refine w_pload Try.stVt _ rfl rfl rfl (hrow.ext hX) hrl ?_)
          | ((with_reducible refine at_alloc ?_); refine w_alloc Try.stVt rfl rfl ?_; intro g8 w4 hg hx4 f8)
          | ((with_reducible refine at_store ?_); refine w_astore Try.stVt (us := [.int .i64 d.k, .int .i64 d.w, .int .i64 d.f, .int .i64 d.x]) _ _ rfl rfl rfl rfl rfl f8 rfl rfl (vt_one d) ?_; intro w5 hm5 f5; replace f8 := f5; replace hX := hX.trans (hm5.after hx4 (fun i e => e ▸ hg)); clear f5 hm5 hx4 hg hrow)
          | ((with_reducible refine at_field ?_); (try refine w_yes _ _ _ rfl rfl rfl ?_); refine w_field Try.stVt _ _ _ rfl rfl rfl (by omega) ?_)
          | ((with_reducible refine at_load ?_); (try refine w_yes _ _ _ rfl rfl rfl ?_); refine w_fload _ rfl rfl rfl f8 rfl (agg_of (by kernel_rfl)) ?_)
          | fail) <;> (try simp only [Act.put, List.setIfInBounds_toArray, List.set_cons_zero, List.set_cons_succ]))
        go_roundw
        case rel => exact ⟨i + 1, by go_num, by have := hlt.out; omega, hs.out, hX⟩
        case measure => have := hlt.out; simp [intOf]; omega
      cases c2 : (d.w == v)
      · have hs := hide_ (show lookV (l.drop (i + 1)) k v j = r from by have := hstep.out; rwa [if_neg (fun h => by simp [h.2.1] at c2)] at this)
        go_wp2_with ((first
          | go_big_skip
          | ((with_reducible refine at_idx ?_); refine w_ridx0 Try.elVt _ _ i VtR.stays rfl rfl rfl rfl hl.out hX hlt.out ?_; rintro p row hrow hrl hre; obtain ⟨rfl, _⟩ := (congrArg (fun z => VtR w row z) hd.out).mp hre)
          | ((with_reducible refine at_load ?_); refine w_pload Try.stVt _ rfl rfl rfl (hrow.ext hX) hrl ?_)
          | ((with_reducible refine at_alloc ?_); refine w_alloc Try.stVt rfl rfl ?_; intro g8 w4 hg hx4 f8)
          | ((with_reducible refine at_store ?_); refine w_astore Try.stVt (us := [.int .i64 d.k, .int .i64 d.w, .int .i64 d.f, .int .i64 d.x]) _ _ rfl rfl rfl rfl rfl f8 rfl rfl (vt_one d) ?_; intro w5 hm5 f5; replace f8 := f5; replace hX := hX.trans (hm5.after hx4 (fun i e => e ▸ hg)); clear f5 hm5 hx4 hg hrow)
          | ((with_reducible refine at_field ?_); (try refine w_yes _ _ _ rfl rfl rfl ?_); refine w_field Try.stVt _ _ _ rfl rfl rfl (by omega) ?_)
          | ((with_reducible refine at_load ?_); (try refine w_yes _ _ _ rfl rfl rfl ?_); refine w_fload _ rfl rfl rfl f8 rfl (agg_of (by kernel_rfl)) ?_)
          | fail) <;> (try simp only [Act.put, List.setIfInBounds_toArray, List.set_cons_zero, List.set_cons_succ]))
        go_roundw
        case rel => exact ⟨i + 1, by go_num, by have := hlt.out; omega, hs.out, hX⟩
        case measure => have := hlt.out; simp [intOf]; omega
      cases c3 : (d.f == j)
      · have hs := hide_ (show lookV (l.drop (i + 1)) k v j = r from by have := hstep.out; rwa [if_neg (fun h => by simp [h.2.2] at c3)] at this)
        go_wp2_with ((first
          | go_big_skip
          | ((with_reducible refine at_idx ?_); refine w_ridx0 Try.elVt _ _ i VtR.stays rfl rfl rfl rfl hl.out hX hlt.out ?_; rintro p row hrow hrl hre; obtain ⟨rfl, _⟩ := (congrArg (fun z => VtR w row z) hd.out).mp hre)
          | ((with_reducible refine at_load ?_); refine w_pload Try.stVt _ rfl rfl rfl (hrow.ext hX) hrl ?_)
          | ((with_reducible refine at_alloc ?_); refine w_alloc Try.stVt rfl rfl ?_; intro g8 w4 hg hx4 f8)
          | ((with_reducible refine at_store ?_); refine w_astore Try.stVt (us := [.int .i64 d.k, .int .i64 d.w, .int .i64 d.f, .int .i64 d.x]) _ _ rfl rfl rfl rfl rfl f8 rfl rfl (vt_one d) ?_; intro w5 hm5 f5; replace f8 := f5; replace hX := hX.trans (hm5.after hx4 (fun i e => e ▸ hg)); clear f5 hm5 hx4 hg hrow)
          | ((with_reducible refine at_field ?_); (try refine w_yes _ _ _ rfl rfl rfl ?_); refine w_field Try.stVt _ _ _ rfl rfl rfl (by omega) ?_)
          | ((with_reducible refine at_load ?_); (try refine w_yes _ _ _ rfl rfl rfl ?_); refine w_fload _ rfl rfl rfl f8 rfl (agg_of (by kernel_rfl)) ?_)
          | fail) <;> (try simp only [Act.put, List.setIfInBounds_toArray, List.set_cons_zero, List.set_cons_succ]))
        go_roundw
        case rel => exact ⟨i + 1, by go_num, by have := hlt.out; omega, hs.out, hX⟩
        case measure => have := hlt.out; simp [intOf]; omega
      · have hs := hide_ (show r = some d.x from by have := hstep.out; rw [if_pos ⟨by simpa using c1, by simpa using c2, by simpa using c3⟩] at this; exact this.symm)
        go_wp2_with ((first
          | go_big_skip
          | ((with_reducible refine at_idx ?_); refine w_ridx0 Try.elVt _ _ i VtR.stays rfl rfl rfl rfl hl.out hX hlt.out ?_; rintro p row hrow hrl hre; obtain ⟨rfl, _⟩ := (congrArg (fun z => VtR w row z) hd.out).mp hre)
          | ((with_reducible refine at_load ?_); refine w_pload Try.stVt _ rfl rfl rfl (hrow.ext hX) hrl ?_)
          | ((with_reducible refine at_alloc ?_); refine w_alloc Try.stVt rfl rfl ?_; intro g8 w4 hg hx4 f8)
          | ((with_reducible refine at_store ?_); refine w_astore Try.stVt (us := [.int .i64 d.k, .int .i64 d.w, .int .i64 d.f, .int .i64 d.x]) _ _ rfl rfl rfl rfl rfl f8 rfl rfl (vt_one d) ?_; intro w5 hm5 f5; replace f8 := f5; replace hX := hX.trans (hm5.after hx4 (fun i e => e ▸ hg)); clear f5 hm5 hx4 hg hrow)
          | ((with_reducible refine at_field ?_); (try refine w_yes _ _ _ rfl rfl rfl ?_); refine w_field Try.stVt _ _ _ rfl rfl rfl (by omega) ?_)
          | ((with_reducible refine at_load ?_); (try refine w_yes _ _ _ rfl rfl rfl ?_); refine w_fload _ rfl rfl rfl f8 rfl (agg_of (by kernel_rfl)) ?_)
          | fail) <;> (try simp only [Act.put, List.setIfInBounds_toArray, List.set_cons_zero, List.set_cons_succ]))
        go_ret2
        exact Keep.intro ⟨by rw [hs.out]; rfl, hX⟩
    · have hs := hide_ (show r = none from by have := hno.out; rw [List.drop_of_length_le (by omega)] at this; exact this.symm)
      have tl : decide (i < l.length) = false := decide_eq_false hlt0
      clear hlt0 hno
      go_wp2
      go_ret2
      exact Keep.intro ⟨by rw [hs.out]; rfl, hX⟩
end Go.Proofs.Ytmhmkaginnddeaa
