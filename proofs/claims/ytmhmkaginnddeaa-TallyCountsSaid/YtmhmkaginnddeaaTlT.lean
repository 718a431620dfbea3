/- A tally of votes, and the document's, side by side. -/
import Derived.Test.YtmhmkaginnddeaaTlS
import Derived.Test.YtmhmkaginnddeaaRegS
namespace Go.Proofs.Ytmhmkaginnddeaa
set_option maxRecDepth 100000
open Go.RowKit

theorem ofV_snoc {L : List VtD} {d : VtD} (h0 : 0 ≤ d.f) (hn : ofV L d.k d.w d.f.toNat = none) : ofV (L ++ [d]) = putT (ofV L) d.k d.w d.f.toNat d.x := by
  funext k v i
  rw [ofV_app]
  unfold putT
  by_cases e : k = d.k ∧ v = d.w ∧ i = d.f.toNat
  · obtain ⟨rfl, rfl, rfl⟩ := e
    rw [hn, if_pos ⟨rfl, rfl, rfl⟩]
    show ofV [d] d.k d.w d.f.toNat = some d.x
    unfold ofV
    rw [if_pos ⟨rfl, rfl, by omega⟩]
  · rw [if_neg e]
    have : ofV [d] k v i = none := by
      unfold ofV
      rw [if_neg fun h => e ⟨h.1.symm, h.2.1.symm, by omega⟩]
      rfl
    rw [this]
    cases ofV L k v i <;> rfl
theorem canAdd_iff (n : Nat) (L : List VtD) (d : VtD) : (CanB d.k d.w d.x ∧ (0 ≤ d.f ∧ d.f < (n : Int)) ∧ fat (ofV L d.k d.w) d.f = none) ↔ (VtOk n d ∧ ofV L d.k d.w d.f.toNat = none) := by
  unfold CanB VtOk
  constructor
  · rintro ⟨⟨h1, h2, h3⟩, h4, h5⟩
    refine ⟨⟨h1, h2, h4, h3⟩, ?_⟩
    unfold fat at h5
    rwa [if_neg (by omega)] at h5
  · rintro ⟨⟨h1, h2, h4, h3⟩, h5⟩
    refine ⟨⟨h1, h2, h3⟩, h4, ?_⟩
    unfold fat
    rwa [if_neg (by omega)]
theorem addOk_V (n : Nat) (L : List VtD) (d : VtD) : addOk n (ofV L) d.k d.w d.f d.x = addVok n L d := decide_eq_decide.2 (canAdd_iff n L d)
theorem addT_V (n : Nat) (L : List VtD) (d : VtD) : addT n (ofV L) d.k d.w d.f d.x = ofV (addV n L d) := by
  unfold addT addV
  by_cases h : VtOk n d ∧ ofV L d.k d.w d.f.toNat = none
  · rw [if_pos h, if_pos ((canAdd_iff n L d).2 h), ofV_snoc h.1.2.2.1.1 h.2]
  · rw [if_neg h, if_neg fun hc => h ((canAdd_iff n L d).1 hc)]
theorem votesOf_step (n : Nat) {l : List VtD} {i : Nat} (hi : i < l.length) {d : VtD} (hd : l[i] = d) : votesOf n (l.take (i + 1)) = addV n (votesOf n (l.take i)) d := by
  unfold votesOf
  rw [List.take_add_one, List.getElem?_eq_getElem hi, hd, List.foldl_append]
  rfl
theorem votesOf_len (n : Nat) (l : List VtD) : (votesOf n l).length ≤ l.length := by
  have key : ∀ (m acc : List VtD), (m.foldl (addV n) acc).length ≤ acc.length + m.length := by
    intro m
    induction m with
    | nil => intro acc; simp
    | cons d m ih =>
      intro acc
      have h1 := ih (addV n acc d)
      have h2 := addV_len n acc d
      simp only [List.foldl_cons, List.length_cons]
      omega
  have := key l []
  simpa [votesOf] using this
theorem ofV_nil : ofV [] = fun _ _ _ => none := by funext k w i; rfl
section
variable {P : Program} {ops : Array Oper} {rest : List Oper} {o : Oper} {a : Act} {Q : Exit → Act → World → Prop} {w : World} {v : Value}
theorem w_mvT (x : Operand) (hgd : o.guard = none) (ho : o.op = .move x ∨ o.op = .assign x) (hv : a.eval x = v) (k : wpList P ops Q rest (a.put o.dst v) w) : wpList P ops Q (o :: rest) a w := by
  refine wpList_runs hgd ?_ k
  unfold Runs execOp
  rcases ho with ho | ho <;> simp [ho, hv]
theorem ret_midcell {t : TypeId} {n : Nat} {zs : List Value} (E : St P t n zs) {fn : Func} {s s' s'' g : Nat} {cs : List Value} {tmps : Array Value} {v v' : Value} (hrs : fn.results = #[.tmp s', .cell s t, .tmp s'']) (hp : tmps.getD s undef = .pointer (some ⟨g, 0, none⟩)) (hv : tmps.getD s' undef = v) (hv' : tmps.getD s'' undef = v') (h : Fs w g cs) (hl : cs.length = n) :
    (results fn tmps).run P w = .ok (.tuple #[v, .agg cs.toArray, v']) w := by
  have hr := run_loadVar_agg E h hl
  rw [Array.getD_eq_getD_getElem?] at hp hv hv'
  simp only [results, hrs]
  simp [hp, hv, hv', asAddr, hr]
end

set_option maxRecDepth 100000 in
set_option maxHeartbeats 6400000 in
theorem counted_any {w : World} {sv u : Value} {t : List Int} {l : List VtD} (h0 : Ints w sv t) (ht : StOk t) (hv0 : Vts w u l) (hlen0 : l.length ≤ 80) :
    Calls Try.prog 16 #[sv, u] w fun e w' => ∃ p u', e = .returned (.tuple #[.pointer (some ⟨p, 0, none⟩), .agg #[sv, u'], .bool true]) ∧
      Tal (fun k => w.heap.size ≤ k ∧ k < w'.heap.size) w' p t (ofV (votesOf t.length l)) l.length ∧ Vts w' u' (votesOf t.length l) ∧ Ext w w' := by
  refine calls_keep ?_
  have hs := hide_ h0
  have hst := hide_ ht
  have hl := hide_ (show Recs 4 VtR w u l from hv0)
  have hfit := hide_ hv0.fit
  have hlen := hide_ hlen0
  have hX := Ext.refl w
  have hone := hide_ (Sl.one' h0)
  have ht7 := hide_ ht.2.1
  clear h0 ht hv0 hlen0
  go_enter Try.func16, Try.ntmps16
  go_wp2_with ((first
    | ((with_reducible refine at_alloc ?_); refine w_alloc (o := ⟨some 5, _, _, _, _, _⟩) Try.stTy rfl rfl ?_; intro b5 w1 hb50 hx f5; have hb5 := hide_ hb50; have h5l := hide_ f5.lt; replace hX := hX.trans hx; clear hx hb50)
    | ((with_reducible refine at_lit ?_); refine w_new Try.elI (i64s []) rfl rfl rfl (i64s_cells _) rfl (by omega) ?_; intro v15 w2 hx o15; replace o15 : OwnI w1.heap.size w2 v15 [] := o15; replace f5 := f5.ext hx; have hs12 := hide_ hX.size; have hs2 := hide_ hx.size; replace hX := hX.trans hx; clear hx)
    | ((with_reducible refine at_bi ?_); refine appi _ _ rfl rfl rfl rfl o15 (hs.out.ext hX) (by have := ht7.out; simp; omega) hs2.out ?_; intro v17 w3 o17 hb3 _ _; rw [List.nil_append] at o17; replace f5 := f5.below hb3 h5l.out; replace hX := hX.trans' (hb3.mono hs12.out); clear hb3 o15)
    | (go_at_call 9; refine (TNew_any o17.ints hst.out).mono ?_; rintro e w4 ⟨p, rfl, hT, hx⟩; have h5n := hide_ f5.lt; have hs3 := hide_ hX.size; replace f5 := f5.ext hx; replace hX := hX.trans hx; clear hx o17)
    | ((with_reducible refine at_sbuild ?_); refine w_sbuild Try.stTy [sv, .slice none 0 0] rfl rfl rfl (by intro x hx; simp at hx; subst hx; exact ⟨by decide, oneCell_cells hone.out⟩) ?_)
    | ((with_reducible refine at_alloc ?_); refine w_alloc (o := ⟨some 8, _, _, _, _, _⟩) Try.stTy rfl rfl ?_; intro b8 w5 hb80 hx f8; have h8n := hide_ (show b5 ≠ b8 from by have := f5.lt; omega); have hb8 := hide_ (Nat.le_trans hX.size hb80); have h8x := hide_ hb80; replace f5 := f5.ext hx; replace hT := hT.ext hx; replace hX := hX.trans hx; clear hx hb80)
    | ((with_reducible refine at_store ?_); refine w_astore Try.stTy (us := [sv, .slice none 0 0]) _ _ rfl rfl rfl rfl rfl f8 rfl rfl (by intro z hz; simp at hz; rcases hz with rfl | rfl; exact hone.out; rfl) ?_; intro w6 hm6 f8'; replace f8 := f8'; replace f5 := f5.mod hm6 h8n.out; replace hT := hT.mod hm6 (fun k hk e => by have e' : k = b8 := e; have := h8x.out; omega); replace hX := hm6.after hX (by intro j e; have e' : j = b8 := e; rw [e']; exact hb8.out); clear hm6 f8')
    | ((with_reducible refine at_bi ?_); refine w_rlen Try.elVt _ rfl rfl rfl (hl.out.ext VtR.stays hX) ?_)
    | fail) <;> (try simp only [Act.put, List.setIfInBounds_toArray, List.set_cons_zero, List.set_cons_succ]))
  have hXb := hide_ (show ∀ k, (w3.heap.size ≤ k ∧ k < w4.heap.size) → (w.heap.size ≤ k ∧ k < w6.heap.size) ∧ k ≠ b5 ∧ k ≠ b8 from fun k hk => by have h1 := h5n.out; have h2 := h8x.out; have h3 := hs3.out; have h4 := f8.lt; exact ⟨⟨by omega, by omega⟩, by omega, by omega⟩)
  go_loopw [23, 9] (fun u23 u9 wr => ∃ (i : Nat) (X : Nat → Prop) (u' : Value), u23 = .int .i64 i ∧ u9 = .bool true ∧ i ≤ l.length ∧ Tal X wr p t (ofV (votesOf t.length (l.take i))) i ∧ Fs wr b8 [sv, u'] ∧ Fs wr b5 [.slice none 0 0, .slice none 0 0] ∧ Vts wr u' (votesOf t.length (l.take i)) ∧
    Hid (∀ k, X k → (w.heap.size ≤ k ∧ k < wr.heap.size) ∧ k ≠ b5 ∧ k ≠ b8) ∧ Hid (∀ k, u'.ownBlock = some k → ¬ X k ∧ k < wr.heap.size ∧ k ≠ b5 ∧ k ≠ b8) ∧ Ext w wr) (fun i _ _ => l.length - (intOf i).toNat)
  case atStart => exact ⟨0, _, _, rfl, rfl, Nat.zero_le _, by rw [show votesOf t.length (l.take 0) = [] from rfl, ofV_nil]; exact hT, f8, f5, Vts.nil _, hXb.out, (fun k hk => nomatch hk), hX⟩
  case round =>
    clear hX hT f8 f5
    obtain ⟨i, X, u', rfl, rfl, hi, hT, f8, f5, hu, hXk, huk, hX⟩ := hrel
    by_cases hlt0 : i < l.length
    · have hlt := hide_ hlt0
      have tl : decide (i < l.length) = true := decide_eq_true hlt0
      have hi7 : i ≤ 80 := by have := hlen.out; omega
      obtain ⟨d, hd0⟩ : ∃ d, l[i] = d := ⟨_, rfl⟩
      have hd := hide_ hd0
      have hdf := hide_ (hd0 ▸ hfit.out _ (List.getElem_mem hlt0) : d.Fit)
      obtain ⟨L, hL0⟩ : ∃ L, votesOf t.length (l.take i) = L := ⟨_, rfl⟩
      have hL1 := hide_ (show votesOf t.length (l.take (i + 1)) = addV t.length L d from by rw [votesOf_step _ hlt0 hd0, hL0])
      rw [hL0] at hT hu
      have hLl := hide_ (show L.length ≤ 100000 from by rw [← hL0]; have h1 := votesOf_len t.length (l.take i); have h2 := List.length_take_le i l; omega)
      obtain ⟨q, hq0⟩ : ∃ q, addVok t.length L d = q := ⟨_, rfl⟩
      have hq := hide_ hq0
      have hr58 := hide_ (show b5 < wr.heap.size ∧ b8 < wr.heap.size from ⟨f5.lt, f8.lt⟩)
      have hwr := hide_ hX.size
      clear hd0 hlt0 hL0 hq0
      cases q
      all_goals go_wp2_with ((first
        | go_big_skip
        | ((with_reducible refine at_idx ?_); refine w_ridx0 Try.elVt _ _ i VtR.stays rfl rfl rfl rfl hl.out hX hlt.out ?_; rintro pq row hrow hrl hre; obtain ⟨rfl, _⟩ := (congrArg (fun z => VtR w row z) hd.out).mp hre)
        | ((with_reducible refine at_load ?_); refine w_pload Try.stVt _ rfl rfl rfl (hrow.ext hX) hrl ?_)
        | ((with_reducible refine at_alloc ?_); refine w_alloc (o := ⟨some 11, _, _, _, _, _⟩) Try.stVt rfl rfl ?_; intro b11 w7 hb11 hx f11; have h11 := hide_ (show b8 ≠ b11 ∧ b5 ≠ b11 ∧ wr.heap.size ≤ b11 from by have := f8.lt; have := f5.lt; exact ⟨by omega, by omega, hb11⟩); replace f8 := f8.ext hx; replace f5 := f5.ext hx; replace hT := hT.ext hx; replace hu := hu.ext hx; have hs7 := hide_ hx.size; have hwX := hX; replace hX := hX.trans hx; clear hx hb11)
        | ((with_reducible refine at_store ?_); refine w_astore Try.stVt (us := vrow d) _ _ rfl rfl rfl rfl rfl f11 rfl rfl (vt_one d) ?_; intro w8 hm8 f11'; replace f11 := f11'; replace f8 := f8.mod hm8 h11.out.1; replace f5 := f5.mod hm8 h11.out.2.1; replace hT := hT.mod hm8 (fun k hk e => by have e' : k = b11 := e; have := (hXk.out k hk).1.2; have := h11.out.2.2; omega); replace hu := hu.mod hm8 (fun k hk e => by have e' : k = b11 := e; have := (huk.out k hk).2.1; have := h11.out.2.2; omega); have hs8 := hide_ (Nat.le_trans hs7.out hm8.size); replace hX := hm8.after hX (by intro j e; have e' : j = b11 := e; rw [e']; exact Nat.le_trans hwX.size h11.out.2.2); clear hm8 f11' hwX hrow)
        | ((with_reducible refine at_field ?_); refine w_field Try.stVt _ _ _ rfl rfl rfl (by omega) ?_)
        | ((with_reducible refine at_load ?_); refine w_aload (cs := vrow d) Try.stVt _ rfl rfl rfl f11 rfl ?_)
        | ((with_reducible refine at_load ?_); refine w_fload _ rfl rfl rfl f11 rfl (agg_of (by kernel_rfl)) ?_)
        | (go_at_call 26; refine (TAdd_any hT (by omega) hdf.out.k hdf.out.w hdf.out.f hdf.out.x).mono ?_; rintro e w9 ⟨X', rfl, hT', hU, _⟩; rw [addOk_V, hq.out]; rw [addT_V] at hT'; replace f11 := f11.mod hU.mod (fun hk => by have := (hXk.out _ hk).1.2; have := h11.out.2.2; omega); replace f8 := f8.mod hU.mod (fun hk => (hXk.out _ hk).2.2 rfl); replace f5 := f5.mod hU.mod (fun hk => (hXk.out _ hk).2.1 rfl); replace hu := hu.mod hU.mod (fun k hk => (huk.out k hk).1); replace hX := hU.mod.after hX (fun k hk => (hXk.out k hk).1.1); have hsub := hide_ hU.sub; have hXn := hide_ (fun k (hk : X k ∨ (w8.heap.size ≤ k ∧ k < w9.heap.size)) => (show (w.heap.size ≤ k ∧ k < w9.heap.size) ∧ k ≠ b5 ∧ k ≠ b8 from by have h1 := hU.size; have h2 := hs8.out; have h3 := hr58.out; rcases hk with hk | hk; exact ⟨⟨(hXk.out k hk).1.1, by have := (hXk.out k hk).1.2; omega⟩, (hXk.out k hk).2⟩; exact ⟨⟨by have := hwr.out; omega, hk.2⟩, by omega, by omega⟩)); have hs9 := hide_ (Nat.le_trans hs8.out hU.size); clear hT hU)
        | ((with_reducible refine at_load ?_); refine w_aload Try.stTy _ rfl rfl rfl f8 rfl ?_)
        | (go_at_call 37; refine (AddR_any ⟨hs.out.ext hX, hu⟩ hdf.out hLl.out ht7.out).mono ?_; rintro e wa ⟨u2, rfl, ⟨_, hu2⟩, hown0, hx⟩; rw [hq.out]; have hown := hide_ hown0; have hun := hide_ (fun k (hk : u'.ownBlock = some k ∨ (w9.heap.size ≤ k ∧ k < wa.heap.size)) => (show ¬ (X k ∨ (w8.heap.size ≤ k ∧ k < w9.heap.size)) ∧ k < wa.heap.size ∧ k ≠ b5 ∧ k ≠ b8 from by have h1 := hs9.out; have h2 := hs8.out; have h3 := hr58.out; have h4 := hx.size; rcases hk with hk | hk; exact ⟨fun h => h.elim (huk.out k hk).1 fun h => by have := (huk.out k hk).2.1; omega, by have := (huk.out k hk).2.1; omega, (huk.out k hk).2.2⟩; exact ⟨fun h => h.elim (fun h => by have := (hXk.out k h).1.2; omega) fun h => by omega, hk.2, by omega, by omega⟩)); have hu21 := hide_ hu2.one; replace f8 := f8.ext hx; replace f5 := f5.ext hx; replace hT' := hT'.ext hx; have hs10 := hide_ hx.size; replace hX := hX.trans hx; clear hx hown0 hu f11)
        | (refine wpList_runs rfl (runs_extract rfl rfl rfl) ?_; simp only [List.getElem_toArray, List.getElem_cons_succ, List.getElem_cons_zero])
        | ((with_reducible refine at_alloc ?_); refine w_alloc (o := ⟨some 13, _, _, _, _, _⟩) Try.stTy rfl rfl ?_; intro b13 wb hb13 hx f13; have h13 := hide_ (show b8 ≠ b13 ∧ b5 ≠ b13 ∧ wa.heap.size ≤ b13 from by have := f8.lt; have := f5.lt; exact ⟨by omega, by omega, hb13⟩); replace f8 := f8.ext hx; replace f5 := f5.ext hx; replace hT' := hT'.ext hx; replace hu2 := hu2.ext hx; have hs11 := hide_ hx.size; have hwX := hX; replace hX := hX.trans hx; clear hx hb13)
        | ((with_reducible refine at_store ?_); refine w_astore (o := ⟨none, .store _ (.tmp 8) _, _, _, _, _⟩) Try.stTy (us := [sv, u2]) _ _ rfl rfl rfl rfl rfl f8 rfl rfl (by intro z hz; simp at hz; rcases hz with rfl | rfl; exact hone.out; exact hu21.out) ?_; intro wd hmd f8'; replace f8 := f8'; replace f5 := f5.mod hmd h8n.out; replace hT' := hT'.mod hmd (fun k hk e => (hXn.out k (hsub.out k hk)).2.2 e); replace hu2 := hu2.mod hmd (fun k hk e => (hun.out k (hown.out k hk)).2.2.2 e); have hs13 := hide_ (Nat.le_trans hs12.out hmd.size); replace hX := hmd.after hX (by intro j e; have e' : j = b8 := e; rw [e']; exact hb8.out); clear hmd f8')
        | ((with_reducible refine at_store ?_); refine w_astore Try.stTy (us := [sv, u2]) _ _ rfl rfl rfl rfl rfl f13 rfl rfl (by intro z hz; simp at hz; rcases hz with rfl | rfl; exact hone.out; exact hu21.out) ?_; intro wc hmc f13'; replace f13 := f13'; replace f8 := f8.mod hmc h13.out.1; replace f5 := f5.mod hmc h13.out.2.1; replace hT' := hT'.mod hmc (fun k hk e => by have e' : k = b13 := e; have h1 := (hXn.out k (hsub.out k hk)).1.2; have := h13.out.2.2; have := hs10.out; omega); replace hu2 := hu2.mod hmc (fun k hk e => by have e' : k = b13 := e; have h1 := (hun.out k (hown.out k hk)).2.1; have := h13.out.2.2; omega); have hs12 := hide_ (Nat.le_trans hs11.out hmc.size); replace hX := hmc.after hX (by intro j e; have e' : j = b13 := e; rw [e']; exact Nat.le_trans hwX.size h13.out.2.2); clear hmc f13' hwX)
        | ((with_reducible refine at_load ?_); refine w_aload Try.stTy _ rfl rfl rfl f13 rfl ?_)
        | fail) <;> (try simp only [Act.put, List.setIfInBounds_toArray, List.set_cons_zero, List.set_cons_succ]))
      all_goals go_roundw
      all_goals try (case rel => exact ⟨i + 1, _, u2, by go_num, rfl, by have := hlt.out; omega, by rw [hL1.out]; exact hT', f8, f5, by rw [hL1.out]; exact hu2, fun k hk => ⟨⟨(hXn.out k (hsub.out k hk)).1.1, by have h1 := (hXn.out k (hsub.out k hk)).1.2; have h2 := hs10.out; have h3 := hs13.out; omega⟩, (hXn.out k (hsub.out k hk)).2⟩, fun k hk => ⟨fun h => (hun.out k (hown.out k hk)).1 (hsub.out k h), by have h1 := (hun.out k (hown.out k hk)).2.1; have h3 := hs13.out; omega, (hun.out k (hown.out k hk)).2.2⟩, hX⟩)
      all_goals have := hlt.out; simp [intOf]; omega
    · have hil : i = l.length := by omega
      have tl : decide (i < l.length) = false := decide_eq_false hlt0
      subst hil
      rw [List.take_length] at hT hu
      have hT1 := hide_ hT
      have hu1 := hide_ hu
      have f81 := hide_ f8
      have hX1 := hide_ hX
      have hu1' := hide_ hu.one
      have n85 := hide_ (Ne.symm h8n.out)
      clear hlt0 hT hu
      go_wp2
      refine wp_region_st [0, 1, 2, 3, 5] (fun i => [51, 52, 53, 4, 0, 6].getD i 0) (fun i v => v = ([.pointer (some ⟨p, 0, none⟩), .agg #[sv, u'], .bool true, .pointer (some ⟨p, 0, none⟩), undef, .bool true] : List Value).getD i undef) b5 4 [.slice none 0 0, .slice none 0 0] (fun us => us = [sv, u']) f5 (by kernel_rfl) (by kernel_rfl) (by kernel_rfl) (by decide) (by kernel_rfl) (by simp) (by decide) (by kernel_rfl) ?_ ?_ ?_
      · intro i hi b w' hm hout hdep
        have f8m := f81.out.mod hm n85.out
        rcases (show i = 0 ∨ i = 1 ∨ i = 2 ∨ i = 3 ∨ i = 5 by simp at hi; omega) with rfl | rfl | rfl | rfl | rfl
        · refine wpOp_of_list rfl ?_
          refine w_mvT (.tmp 7) rfl (.inl rfl) (hout 7 (by decide)) ?_
          exact ⟨_, rfl, rfl, Ext.refl _⟩
        · refine wpOp_of_list rfl ?_
          refine w_aload Try.stTy (.tmp 8) rfl rfl (hout 8 (by decide)) f8m rfl ?_
          exact ⟨_, rfl, rfl, Ext.refl _⟩
        · refine wpOp_of_list rfl ?_
          refine w_mvT (.tmp 9) rfl (.inl rfl) (hout 9 (by decide)) ?_
          exact ⟨_, rfl, rfl, Ext.refl _⟩
        · have e := hdep 0 (by decide) (by kernel_rfl)
          refine wpOp_of_list rfl ?_
          refine w_mvT (.tmp 51) rfl (.inr rfl) e ?_
          exact ⟨_, rfl, rfl, Ext.refl _⟩
        · have e := hdep 2 (by decide) (by kernel_rfl)
          refine wpOp_of_list rfl ?_
          refine w_mvT (.tmp 53) rfl (.inr rfl) e ?_
          exact ⟨_, rfl, rfl, Ext.refl _⟩
      · intro b w' hm hout hf hdep
        have e := hdep 1 (by decide) (by kernel_rfl)
        refine wpOp_of_list rfl ?_
        refine w_astore Try.stTy (us := [sv, u']) (.tmp 5) (.tmp 52) rfl rfl rfl (hout 5 (by decide)) e hf rfl rfl (by intro z hz; simp at hz; rcases hz with rfl | rfl; exact hone.out; exact hu1'.out) ?_
        intro w2 hm2 f2
        exact ⟨_, rfl, hm2, f2, rfl⟩
      · rintro w' x hm hx ⟨cs, hf, rfl⟩
        have e0 := hx 0 (by decide)
        have e1 := hx 1 (by decide)
        have e2 := hx 2 (by decide)
        have e3 := hx 3 (by decide)
        have e5 := hx 5 (by decide)
        simp only [List.foldl_cons, List.foldl_nil]
        rw [e0, e1, e2, e3, e5]
        simp only [List.getD_cons_zero, List.getD_cons_succ, Act.put, List.setIfInBounds_toArray, List.set_cons_zero, List.set_cons_succ]
        have hTe := (hT1.out.mod hm fun k hk => (hXk.out k hk).2.1).mono (Y := fun k => w.heap.size ≤ k ∧ k < w'.heap.size) fun k hk => ⟨(hXk.out k hk).1.1, Nat.lt_of_lt_of_le (hXk.out k hk).1.2 hm.size⟩
        have hue := hu1.out.mod hm fun k hk => (huk.out k hk).2.2.1
        have hXe := hm.after hX1.out (by intro j e; have e' : j = b5 := e; rw [e']; exact hb5.out)
        go_wp2
        exact bodyPost_ret (ret_midcell Try.stTy rfl rfl rfl rfl hf rfl) rfl (Keep.intro ⟨p, u', rfl, hTe, hue, hXe⟩)
end Go.Proofs.Ytmhmkaginnddeaa
