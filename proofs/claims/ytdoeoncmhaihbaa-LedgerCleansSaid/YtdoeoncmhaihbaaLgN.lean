/- Two ledgers, as plain mathematics: each number where it comes first; how many decisions are known; what is final, what is available. -/
import Derived.Test.YtdoeoncmhaihbaaCHG
namespace Go.Proofs.Ytdoeoncmhaihbaa
set_option maxRecDepth 100000

/-- Each number where it comes first, behind those that are there. -/
def clF (o l : List Int) : List Int := l.foldl (fun o x => if x ∈ o then o else o ++ [x]) o
def cl (l : List Int) : List Int := clF [] l
theorem clF_nil (o : List Int) : clF o [] = o := rfl
theorem clF_cons (o : List Int) (x : Int) (l : List Int) : clF o (x :: l) = clF (if x ∈ o then o else o ++ [x]) l := rfl
theorem clF_app (o a b : List Int) : clF o (a ++ b) = clF (clF o a) b := by unfold clF; rw [List.foldl_append]
theorem clF_snoc (o l : List Int) (x : Int) : clF o (l ++ [x]) = if x ∈ clF o l then clF o l else clF o l ++ [x] := by rw [clF_app]; rfl
theorem cl_app (a b : List Int) : cl (a ++ b) = clF (cl a) b := clF_app _ _ _
theorem clF_pre (o : List Int) : ∀ l : List Int, o <+: clF o l := by
  intro l
  induction l generalizing o with
  | nil => exact List.prefix_rfl
  | cons x l ih =>
    rw [clF_cons]
    refine List.IsPrefix.trans ?_ (ih _)
    split
    · exact List.prefix_rfl
    · exact List.prefix_append _ _
theorem cl_pre {a b : List Int} (h : a <+: b) : cl a <+: cl b := by
  obtain ⟨c, rfl⟩ := h
  rw [cl_app]; exact clF_pre _ _
theorem mem_clF {x : Int} : ∀ {l o : List Int}, x ∈ clF o l ↔ x ∈ o ∨ x ∈ l
  | [], o => by simp [clF_nil]
  | y :: l, o => by
    rw [clF_cons, mem_clF]
    split
    · rename_i h
      simp only [List.mem_cons]
      constructor
      · rintro (h1 | h1)
        · exact .inl h1
        · exact .inr (.inr h1)
      · rintro (h1 | rfl | h1)
        · exact .inl h1
        · exact .inl h
        · exact .inr h1
    · simp only [List.mem_append, List.mem_cons, List.not_mem_nil, or_false]
      exact or_assoc
theorem mem_cl {x : Int} {l : List Int} : x ∈ cl l ↔ x ∈ l := by unfold cl; rw [mem_clF]; simp
theorem clF_nodup : ∀ {l o : List Int}, o.Nodup → (clF o l).Nodup
  | [], _, h => h
  | x :: l, o, h => by
    rw [clF_cons]
    refine clF_nodup ?_
    split
    · exact h
    · rename_i hx
      rw [List.nodup_append]
      exact ⟨h, by simp, fun a ha b hb => by rw [List.mem_singleton] at hb; subst hb; exact fun e => hx (e ▸ ha)⟩
theorem cl_nodup (l : List Int) : (cl l).Nodup := clF_nodup List.nodup_nil
/-- Nothing is new. -/
theorem clF_same {o : List Int} : ∀ {l : List Int}, (∀ x ∈ l, x ∈ o) → clF o l = o
  | [], _ => rfl
  | x :: l, h => by rw [clF_cons, if_pos (h x List.mem_cons_self)]; exact clF_same fun y hy => h y (List.mem_cons_of_mem _ hy)
/-- All is new, and once. -/
theorem clF_new : ∀ {l o : List Int}, l.Nodup → (∀ x ∈ l, x ∉ o) → clF o l = o ++ l
  | [], o, _, _ => (List.append_nil _).symm
  | x :: l, o, hn, h => by
    rw [List.nodup_cons] at hn
    rw [clF_cons, if_neg (h x List.mem_cons_self), clF_new hn.2, List.append_assoc]; rfl
    intro y hy q
    rcases List.mem_append.1 q with q | q
    · exact h y (List.mem_cons_of_mem _ hy) q
    · rw [List.mem_singleton] at q; subst q; exact hn.1 hy
theorem cl_of_nodup {l : List Int} (h : l.Nodup) : cl l = l := by unfold cl; rw [clF_new h (fun _ _ => List.not_mem_nil), List.nil_append]
theorem cl_idem (l : List Int) : cl (cl l) = cl l := cl_of_nodup (cl_nodup l)
theorem clF_cl' (o l : List Int) : clF o (cl l) = clF o l := by
  have h : ∀ n, ∀ l : List Int, l.length = n → clF o (cl l) = clF o l := by
    intro n
    induction n with
    | zero => intro l hl; rw [List.eq_nil_of_length_eq_zero hl]; rfl
    | succ n ih =>
      intro l hl
      obtain ⟨m, x, rfl⟩ : ∃ m x, l = m ++ [x] := ⟨l.dropLast, l.getLast (by intro e; rw [e] at hl; simp at hl), (List.dropLast_concat_getLast _).symm⟩
      have hm := ih m (by simpa using hl)
      unfold cl at hm ⊢
      rw [clF_snoc [] m x, clF_snoc o m x]
      by_cases hx : x ∈ clF [] m
      · have hx' : x ∈ clF o m := by rw [mem_clF] at hx ⊢; exact .inr (hx.resolve_left List.not_mem_nil)
        rw [if_pos hx, if_pos hx', hm]
      · rw [if_neg hx, clF_snoc, hm]
  exact h _ l rfl
/-- In two parts, one behind the other. -/
theorem cl_two (a b : List Int) : cl (cl a ++ cl b) = cl (a ++ b) := by rw [cl_app, cl_idem, clF_cl', cl_app]
theorem cl_left (a b : List Int) : cl (cl a ++ b) = cl (a ++ b) := by rw [cl_app, cl_idem, cl_app]
/-- Of what is there already nothing comes. -/
theorem cl_flat (f : Int → List Int) : ∀ S : List Int, cl ((cl S).flatMap f) = cl (S.flatMap f) := by
  have h : ∀ n, ∀ S : List Int, S.length = n → cl ((cl S).flatMap f) = cl (S.flatMap f) := by
    intro n
    induction n with
    | zero => intro S hl; rw [List.eq_nil_of_length_eq_zero hl]; rfl
    | succ n ih =>
      intro S hl
      obtain ⟨m, x, rfl⟩ : ∃ m x, S = m ++ [x] := ⟨S.dropLast, S.getLast (by intro e; rw [e] at hl; simp at hl), (List.dropLast_concat_getLast _).symm⟩
      have hm := ih m (by simpa using hl)
      have e1 : (m ++ [x]).flatMap f = m.flatMap f ++ f x := by simp
      have e2 : cl (m ++ [x]) = if x ∈ cl m then cl m else cl m ++ [x] := clF_snoc _ _ _
      rw [e1, e2, cl_app, ← hm]
      by_cases hx : x ∈ cl m
      · rw [if_pos hx]
        refine (clF_same fun y hy => ?_).symm
        rw [mem_cl, List.mem_flatMap]
        exact ⟨x, hx, hy⟩
      · have e3 : (cl m ++ [x]).flatMap f = (cl m).flatMap f ++ f x := by simp
        rw [if_neg hx, e3, cl_app]
  exact fun S => h _ S rfl
/-- Each one twice. -/
def dbl (l : List Int) : List Int := l.flatMap fun d => [d, d]
theorem dbl_take {l : List Int} {k : Nat} {d : Int} (h : l[k]? = some d) : dbl (l.take (k + 1)) = dbl (l.take k) ++ [d, d] := by
  unfold dbl
  rw [List.take_add_one, h]; simp
theorem dbl_len (l : List Int) : (dbl l).length = 2 * l.length := by
  unfold dbl
  induction l with
  | nil => rfl
  | cons d l ih => rw [List.flatMap_cons, List.length_append, ih]; simp; omega
theorem cl_dbl (l : List Int) : cl (dbl l) = cl l := by
  have h : ∀ (l o : List Int), clF o (dbl l) = clF o l := by
    intro l
    induction l with
    | nil => intro o; rfl
    | cons d l ih =>
      intro o
      have e : dbl (d :: l) = d :: d :: dbl l := by simp [dbl]
      rw [e, clF_cons, clF_cons, clF_cons]
      by_cases hd : d ∈ o
      · rw [if_pos hd, if_pos hd]; exact ih o
      · rw [if_neg hd, if_pos (List.mem_append_right _ List.mem_cons_self)]; exact ih _
  exact h l []
/-- How many decisions are known. -/
def stl (P : Int → Bool) (l : List Int) : Nat := (l.takeWhile P).length
theorem stl_le (P : Int → Bool) (l : List Int) : stl P l ≤ l.length := (List.takeWhile_prefix P).length_le
theorem stl_take (P : Int → Bool) (l : List Int) : l.take (stl P l) = l.takeWhile P := by
  have h := List.takeWhile_prefix P (l := l)
  exact (List.prefix_iff_eq_take.1 h).symm
theorem stl_all {P : Int → Bool} : ∀ {l : List Int}, (∀ x ∈ l, P x = true) → stl P l = l.length
  | [], _ => rfl
  | x :: l, h => by
    unfold stl
    rw [List.takeWhile_cons, h x List.mem_cons_self]
    have := stl_all (l := l) fun y hy => h y (List.mem_cons_of_mem _ hy)
    unfold stl at this
    simp [this]
/-- The k-th is the first that isn't known. -/
theorem stl_at {P : Int → Bool} : ∀ {l : List Int} {k : Nat} {x : Int}, l[k]? = some x → (∀ y ∈ l.take k, P y = true) → P x = false → stl P l = k
  | [], k, x, h, _, _ => by simp at h
  | y :: l, 0, x, h, _, hp => by
    have e : y = x := by simpa using h
    subst e
    unfold stl
    rw [List.takeWhile_cons, hp]; rfl
  | y :: l, k + 1, x, h, ha, hp => by
    have h1 : P y = true := ha y (by simp)
    have := stl_at (l := l) (k := k) (x := x) (by simpa using h) (fun z hz => ha z (by simp [hz])) hp
    unfold stl at this ⊢
    rw [List.takeWhile_cons, h1]
    simp [this]
/-- 0, or a name that is known. -/
def knw (K : List BlkD) (n : Int) : Bool := decide (n = 0) || TrS.has K n
def settled (K : List BlkD) (ds : List Int) : Nat := stl (knw K) ds
def finL (K : List BlkD) (ds : List Int) : List Int := cl ((ds.take (settled K ds)).flatMap (ids K))
def avL (K : List BlkD) (ds : List Int) (c : Int) : List Int := cl (finL K ds ++ ids K c)
theorem avL_pre (K : List BlkD) (ds : List Int) (c : Int) : finL K ds <+: avL K ds c := by
  unfold avL
  have : finL K ds = cl (finL K ds) := by unfold finL; rw [cl_idem]
  conv => lhs; rw [this]
  exact cl_pre (List.prefix_append _ _)
theorem finL_nil (K : List BlkD) : finL K [] = [] := rfl
theorem avL_nil (K : List BlkD) (c : Int) : avL K [] c = cl (ids K c) := by unfold avL; rw [finL_nil, List.nil_append]
theorem takeWhile_pre {P : Int → Bool} {a b : List Int} (h : a <+: b) : a.takeWhile P <+: b.takeWhile P := by
  obtain ⟨c, rfl⟩ := h
  induction a with
  | nil => exact List.nil_prefix
  | cons x a ih =>
    rw [List.cons_append, List.takeWhile_cons, List.takeWhile_cons]
    cases P x
    · exact List.prefix_rfl
    · simp only [if_true]
      exact (List.prefix_cons_inj x).2 ih
theorem takeWhile_imp {P Q : Int → Bool} (h : ∀ x, P x = true → Q x = true) : ∀ l : List Int, l.takeWhile P <+: l.takeWhile Q
  | [] => List.prefix_rfl
  | x :: l => by
    rw [List.takeWhile_cons, List.takeWhile_cons]
    cases hp : P x
    · exact List.nil_prefix
    · rw [h x hp]
      simp only [if_true]
      exact (List.prefix_cons_inj x).2 (takeWhile_imp h l)
theorem flatMap_pre {f : Int → List Int} {a b : List Int} (h : a <+: b) : a.flatMap f <+: b.flatMap f := by
  obtain ⟨c, rfl⟩ := h
  rw [List.flatMap_append]; exact List.prefix_append _ _
/-- More decisions. -/
theorem finL_more (K : List BlkD) {ds es : List Int} (h : ds <+: es) : finL K ds <+: finL K es := by
  unfold finL settled
  rw [stl_take, stl_take]
  exact cl_pre (flatMap_pre (takeWhile_pre h))
theorem knw_mono {K K' : List BlkD} (hk : ∀ x ∈ K, x ∈ K') (n : Int) (h : knw K n = true) : knw K' n = true := by
  unfold knw TrS.has at h ⊢
  rw [Bool.or_eq_true, List.any_eq_true] at h ⊢
  exact h.imp_right fun ⟨x, hx, e⟩ => ⟨x, hk x hx, e⟩
theorem settled_mono {K K' : List BlkD} (hk : ∀ x ∈ K, x ∈ K') (ds : List Int) : settled K ds ≤ settled K' ds := (takeWhile_imp (knw_mono hk) ds).length_le
theorem mem_has {K : List BlkD} {n : Int} (h : TrS.has K n = true) : ∃ b ∈ K, b.name = n := by
  unfold TrS.has at h
  obtain ⟨b, hb, e⟩ := List.any_eq_true.1 h
  exact ⟨b, hb, of_decide_eq_true e⟩
theorem getOr_mono {K K' : List BlkD} (h : TrS.Uq K) (h' : TrS.Uq K') (hk : ∀ x ∈ K, x ∈ K') {n : Int} (hn : TrS.has K n = true) : getOr K' n = getOr K n := by
  obtain ⟨b, hb, rfl⟩ := mem_has hn
  unfold getOr
  rw [h.get hb, h'.get (hk b hb)]
theorem flatMap_cong {f g : Int → List Int} : ∀ {l : List Int}, (∀ x ∈ l, f x = g x) → l.flatMap f = l.flatMap g
  | [], _ => rfl
  | x :: l, h => by rw [List.flatMap_cons, List.flatMap_cons, h x List.mem_cons_self, flatMap_cong fun y hy => h y (List.mem_cons_of_mem _ hy)]
theorem ids_mono {K K' : List BlkD} (h : TrS.Uq K) (h' : TrS.Uq K') (hs : TrS.Stood K) (hk : ∀ x ∈ K, x ∈ K') {n : Int} (hn : knw K n = true) : ids K' n = ids K n := by
  unfold knw at hn
  rw [Bool.or_eq_true, decide_eq_true_iff] at hn
  rcases hn with rfl | hn
  · unfold ids
    rw [h.path_zero, h'.path_zero]; rfl
  · obtain ⟨b, hb, rfl⟩ := mem_has hn
    unfold ids idsOf
    rw [h.path_mono h' hs hk b hb]
    refine flatMap_cong fun x hx => ?_
    obtain ⟨c, hc, e⟩ := path_mem h hs hx
    rw [getOr_mono h h' hk (by unfold TrS.has; exact List.any_eq_true.2 ⟨c, hc, decide_eq_true e⟩)]
/-- More blocks. -/
theorem finL_grow {K K' : List BlkD} (h : TrS.Uq K) (h' : TrS.Uq K') (hs : TrS.Stood K) (hk : ∀ x ∈ K, x ∈ K') (ds : List Int) : finL K ds <+: finL K' ds := by
  unfold finL settled
  rw [stl_take, stl_take]
  have e : (ds.takeWhile (knw K)).flatMap (ids K) = (ds.takeWhile (knw K)).flatMap (ids K') := flatMap_cong fun x hx => by
    have hp : knw K x = true := by
      have : ∀ (l : List Int) (P : Int → Bool), x ∈ l.takeWhile P → P x = true := fun l P => by
        induction l with
        | nil => intro h; cases h
        | cons y l ih =>
          intro hy
          rw [List.takeWhile_cons] at hy
          cases hq : P y
          · rw [hq] at hy; cases hy
          · rw [hq] at hy
            simp only [if_true] at hy
            rcases List.mem_cons.1 hy with rfl | hy
            · exact hq
            · exact ih hy
      exact this _ _ hx
    exact (ids_mono h h' hs hk hp).symm
  rw [e]
  exact cl_pre (flatMap_pre (takeWhile_imp (knw_mono hk) ds))
/-- Each decision twice. -/
theorem takeWhile_dbl (P : Int → Bool) (l : List Int) : (dbl l).takeWhile P = dbl (l.takeWhile P) := by
  induction l with
  | nil => rfl
  | cons d l ih =>
    have e : dbl (d :: l) = d :: d :: dbl l := by simp [dbl]
    rw [e, List.takeWhile_cons, List.takeWhile_cons, List.takeWhile_cons]
    cases P d
    · rfl
    · simp only [if_true]
      rw [ih]; simp [dbl]
theorem finL_dbl (K : List BlkD) (ds : List Int) : finL K (dbl ds) = finL K ds := by
  unfold finL settled
  rw [stl_take, stl_take, takeWhile_dbl, ← cl_flat, cl_dbl, cl_flat]
theorem avL_dbl (K : List BlkD) (ds : List Int) (c : Int) : avL K (dbl ds) c = avL K ds c := by unfold avL; rw [finL_dbl]
/-- How long all that can be. -/
theorem clF_len : ∀ (l o : List Int), (clF o l).length ≤ o.length + l.length
  | [], o => Nat.le_refl _
  | x :: l, o => by
    rw [clF_cons]
    refine Nat.le_trans (clF_len l _) ?_
    rw [List.length_cons]
    split
    · omega
    · rw [List.length_append, List.length_singleton]; omega
theorem cl_len (l : List Int) : (cl l).length ≤ l.length := by have := clF_len l []; simpa [cl] using this
theorem ids_len {K : List BlkD} (h : ∀ b ∈ K, b.Right) (n : Int) : (ids K n).length ≤ 12288 := by
  have h1 := idsOf_len h (TrS.path K n)
  have h2 := path_len K n
  unfold ids; omega
theorem flat_len3 {K : List BlkD} (h : ∀ b ∈ K, b.Right) : ∀ S : List Int, (S.flatMap (ids K)).length ≤ S.length * 12288
  | [] => by simp
  | n :: S => by
    have h1 := flat_len3 h S
    have h2 := ids_len h n
    rw [List.flatMap_cons, List.length_append, List.length_cons]
    omega
theorem finL_len {K : List BlkD} (h : ∀ b ∈ K, b.Right) (ds : List Int) : (finL K ds).length ≤ ds.length * 12288 := by
  have h1 := cl_len ((ds.take (settled K ds)).flatMap (ids K))
  have h2 := flat_len3 h (ds.take (settled K ds))
  rw [List.length_take] at h2
  have h3 : min (settled K ds) ds.length * 12288 ≤ ds.length * 12288 := Nat.mul_le_mul_right _ (by omega)
  unfold finL; omega
end Go.Proofs.Ytdoeoncmhaihbaa
