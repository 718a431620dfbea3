/- A bag in memory: its channel, what was taken out of that already, the boxes of what is in it. -/
import Derived.Test.YtkkbpmkeemfppaaNtA
import Derived.Test.YtkkbpmkeemfppaaTrK
import Derived.Test.YtkkbpmkeemfppaaFD
namespace Go.Proofs.Ytkkbpmkeemfppaa
open Go.RowKit

theorem Try.stBag : St Try.prog 66 2 [.chan none, .slice none 0 0] := St.of (by kernel_rfl) (by kernel_rfl) rfl
theorem Try.infoP : (Try.prog.info? 68).map (fun i => (i.zero, i.size, i.bytes)) = some (some (.pointer none), 1, 8) := by kernel_rfl
theorem Try.elP : El Try.prog 64 68 (.pointer none) 8 := by
  obtain ⟨i0, hi, hz0, hz1, hz2⟩ := info_parts Try.infoP
  exact ⟨Try.underlying64, ⟨i0, hi, hz0, hz1, hz2⟩, rfl, by omega⟩
/-- The address of block g. -/
def PT (g : Nat) : Value := .pointer (some ⟨g, 0, none⟩)
theorem pt_one (gs : List Nat) : ∀ u ∈ gs.map PT, u.oneCell' = true := by
  intro u hu; rw [List.mem_map] at hu; obtain ⟨g, _, rfl⟩ := hu; rfl
/-- Block c is an open channel with room for n; in it are us. -/
def Ch (n : Nat) (w : World) (c : Nat) (us : List Value) : Prop := ∃ s r, w.heap[c]? = some (.chan n us.toArray false s r false)
theorem Ch.lt {n : Nat} {w : World} {c : Nat} {us : List Value} (h : Ch n w c us) : c < w.heap.size := by obtain ⟨s, r, h⟩ := h; exact (Array.getElem?_eq_some_iff.1 h).1
theorem Ch.ext {n : Nat} {w w' : World} {c : Nat} {us : List Value} (h : Ch n w c us) (he : Ext w w') : Ch n w' c us := by
  have hl := h.lt
  obtain ⟨s, r, h⟩ := h; exact ⟨s, r, by rw [he.block c hl]; exact h⟩
theorem Ch.mod {n : Nat} {F : Nat → Prop} {w w' : World} {c : Nat} {us : List Value} (h : Ch n w c us) (hm : Mod F w w') (hn : ¬ F c) : Ch n w' c us := by
  have hl := h.lt
  obtain ⟨s, r, h⟩ := h; exact ⟨s, r, by rw [hm.block c hl hn]; exact h⟩
theorem mod_setChan (w : World) (c cap : Nat) (buf : Array Value) (cl : Bool) (s r : Nat) (tm : Bool) : Mod (fun k => k = c) w (w.setChan c cap buf cl s r tm) :=
  ⟨rfl, rfl, rfl, by simp [World.setChan], fun k _ hk => by simp only [World.setChan]; rw [Array.getElem?_setIfInBounds_ne (by omega)]⟩
section
variable {P : Program} {ops : Array Oper} {rest : List Oper} {o : Oper} {a : Act} {Q : Exit → Act → World → Prop} {w : World} {t e : TypeId} {dir : ChanDir}
/-- make(chan T, n) -/
theorem w_mkchan (x : Operand) (n : Nat) (hu : P.underlying t = some (.chan dir e)) (hi : (P.info? e).map (·.bytes) = some 8) (hgd : o.guard = none) (ho : o.op = .makeChan t x) (hx : a.eval x = .int .i64 n) (hn : n ≤ 5000)
    (k : ∀ c w', w.heap.size ≤ c → Ext w w' → Ch n w' c [] → wpList P ops Q rest (a.put o.dst (.chan (some c))) w') : wpList P ops Q (o :: rest) a w := by
  obtain ⟨i, hi, hb⟩ := Option.map_eq_some_iff.1 hi
  refine wpList_plain hgd fun K hK => ?_
  have hr := Go.Conc.run_makeChan (P := P) (w := w) hu hi .i64 n (by omega) (by rw [hb]; omega)
  have hk := hK _ _ (k w.heap.size _ (Nat.le_refl _) ((Ext.refl w).alloc (.chan n #[] false 0 0 false)) ⟨0, 0, heap_alloc_new _ _⟩)
  unfold Oper.wp execOp
  simp only [ho, hx, Sem.run_bind, hr, Result.andThen_ok]
  exact hk
theorem runs_lench {ρ : Operand → Value} {n c m : Nat} {us : List Value} (x : Operand) (hu : P.underlying t = some (.chan dir e)) (ho : o.op = .call { callee := .builtin .len, args := #[x], argTypes := #[t] }) (hx : ρ x = .chan (some c)) (h : Ch n w c us) (hl : us.length = m) : Runs P o ρ w (.int .i64 m) := by
  obtain ⟨s, r, h⟩ := h
  subst hl
  unfold Runs execOp
  simp [ho, resolve, invoke, builtin, hx, Builtin.len_, run_underlying hu, run_getObj_chan _ _ h, Result.andThen, goInt]
theorem runs_lenP {ρ : Operand → Value} {w : World} {v : Value} {us : List Value} {m : Nat} (x : Operand) (ho : o.op = .call { callee := .builtin .len, args := #[x], argTypes := #[64] }) (hv : ρ x = v) (h : Sl w v us) (hl : us.length = m) : Runs Try.prog o ρ w (.int .i64 m) := by
  subst hl
  exact runs_len Try.elP x ho hv h
end
/-- A bag at p in blocks of F: its channel c with what lies in hs, what was taken out of that already (gs) in v; the boxes lie outside of F. -/
structure Bi (X F : Nat → Prop) (w : World) (p c : Nat) (v : Value) (gs hs : List Nat) (l : List Int) : Prop where
  f : Fs w p [.chan (some c), v]
  ch : Ch 4000 w c (hs.map PT)
  row : Row (fun k => F k ∧ k ≠ p ∧ k ≠ c) w 68 v (gs.map PT)
  fp : F p
  fc : F c
  ne : p ≠ c
  lt : ∀ k, F k → k < w.heap.size
  len : gs.length + hs.length = l.length
  few : l.length ≤ 4000
  box : ∀ (i g : Nat) (x : Int), (gs ++ hs)[i]? = some g → l[i]? = some x → (Fs w g [.int .i64 x] ∧ ¬ F g) ∧ X g
def Bx (X F : Nat → Prop) (w : World) (p : Nat) (l : List Int) : Prop := ∃ c v gs hs, Bi X F w p c v gs hs l
/-- Wherever the boxes are. -/
abbrev Bg (F : Nat → Prop) (w : World) (p : Nat) (l : List Int) : Prop := Bx (fun _ => True) F w p l
section
variable {X F : Nat → Prop} {w w' : World} {p c : Nat} {v : Value} {gs hs : List Nat} {l : List Int}
theorem Bi.ext (h : Bi X F w p c v gs hs l) (he : Ext w w') : Bi X F w' p c v gs hs l :=
  ⟨h.f.ext he, h.ch.ext he, h.row.ext he, h.fp, h.fc, h.ne, fun k hk => Nat.lt_of_lt_of_le (h.lt k hk) he.size, h.len, h.few, fun i g x h1 h2 => ⟨⟨(h.box i g x h1 h2).1.1.ext he, (h.box i g x h1 h2).1.2⟩, (h.box i g x h1 h2).2⟩⟩
theorem Bx.ext (h : Bx X F w p l) (he : Ext w w') : Bx X F w' p l := by obtain ⟨c, v, gs, hs, h⟩ := h; exact ⟨c, v, gs, hs, h.ext he⟩
theorem Bi.mod {G : Nat → Prop} (h : Bi X F w p c v gs hs l) (hm : Mod G w w') (hd : ∀ k, F k → ¬ G k) (hb : ∀ k, X k → ¬ G k) : Bi X F w' p c v gs hs l :=
  ⟨h.f.mod hm (hd p h.fp), h.ch.mod hm (hd c h.fc), h.row.mod hm fun k hk => hd k hk.1, h.fp, h.fc, h.ne, fun k hk => Nat.lt_of_lt_of_le (h.lt k hk) hm.size, h.len, h.few, fun i g x h1 h2 =>
    ⟨⟨(h.box i g x h1 h2).1.1.mod hm (hb g (h.box i g x h1 h2).2), (h.box i g x h1 h2).1.2⟩, (h.box i g x h1 h2).2⟩⟩
theorem Bx.mod {G : Nat → Prop} (h : Bx X F w p l) (hm : Mod G w w') (hd : ∀ k, F k → ¬ G k) (hb : ∀ k, X k → ¬ G k) : Bx X F w' p l := by obtain ⟨c, v, gs, hs, h⟩ := h; exact ⟨c, v, gs, hs, h.mod hm hd hb⟩
theorem Bx.lt (h : Bx X F w p l) : ∀ k, F k → k < w.heap.size := by obtain ⟨c, v, gs, hs, h⟩ := h; exact h.lt
theorem Bx.few (h : Bx X F w p l) : l.length ≤ 4000 := by obtain ⟨c, v, gs, hs, h⟩ := h; exact h.few
theorem Bx.now (h : Bx X F w p l) : Bx (fun k => k < w.heap.size) F w p l := by
  obtain ⟨c, v, gs, hs, h⟩ := h
  exact ⟨c, v, gs, hs, h.f, h.ch, h.row, h.fp, h.fc, h.ne, h.lt, h.len, h.few, fun i g x h1 h2 => ⟨(h.box i g x h1 h2).1, (h.box i g x h1 h2).1.1.lt⟩⟩
/-- A box more goes into the channel. -/
theorem Bi.push {g s r : Nat} {x : Int} (h : Bi X F w p c v gs hs l) (hx : Fs w g [.int .i64 x]) (hg : ¬ F g) (hXg : X g) (hl : l.length < 4000) :
    Bi X F (w.setChan c 4000 ((hs.map PT).toArray.push (PT g)) false (s + 1) r false) p c v gs (hs ++ [g]) (l ++ [x]) := by
  have hm := mod_setChan w c 4000 ((hs.map PT).toArray.push (PT g)) false (s + 1) r false
  refine ⟨h.f.mod hm h.ne, ⟨s + 1, r, ?_⟩, h.row.mod hm fun k hk => hk.2.2, h.fp, h.fc, h.ne, fun k hk => Nat.lt_of_lt_of_le (h.lt k hk) hm.size, by have := h.len; simp; omega, by simp; omega, fun i g' y h1 h2 => ?_⟩
  · rw [Go.Conc.heap_setChan _ _ _ _ _ _ _ _ h.ch.lt]; simp
  · have hlen : (gs ++ hs).length = l.length := by have := h.len; simpa using this
    rw [← List.append_assoc] at h1
    rcases Nat.lt_trichotomy i l.length with hi | hi | hi
    · rw [List.getElem?_append_left (by omega)] at h1 h2
      obtain ⟨⟨h3, h4⟩, h5⟩ := h.box i g' y h1 h2
      exact ⟨⟨h3.mod hm fun e => h4 (e ▸ h.fc), h4⟩, h5⟩
    · subst hi
      rw [List.getElem?_concat_length] at h2
      rw [← hlen, List.getElem?_concat_length] at h1
      cases h1; cases h2
      exact ⟨⟨hx.mod hm fun e => hg (e ▸ h.fc), hg⟩, hXg⟩
    · have := (List.getElem?_eq_some_iff.1 h2).1
      simp at this; omega
/-- The first one leaves the channel: ahead of being put behind those that are near. -/
theorem Bi.pull {g s r : Nat} (h : Bi X F w p c v gs (g :: hs) l) :
    let w' := w.setChan c 4000 (((g :: hs).map PT).toArray.extract 1 ((g :: hs).map PT).toArray.size) false s (r + 1) false
    Mod (fun k => k = c) w w' ∧ Fs w' p [.chan (some c), v] ∧ Ch 4000 w' c (hs.map PT) ∧ Row (fun k => F k ∧ k ≠ p ∧ k ≠ c) w' 68 v (gs.map PT) := by
  have hm := mod_setChan w c 4000 (((g :: hs).map PT).toArray.extract 1 ((g :: hs).map PT).toArray.size) false s (r + 1) false
  refine ⟨hm, h.f.mod hm h.ne, ⟨s, r + 1, ?_⟩, h.row.mod hm fun k hk => hk.2.2⟩
  rw [Go.Conc.heap_setChan _ _ _ _ _ _ _ _ h.ch.lt]
  have e : (((g :: hs).map PT).toArray.extract 1 ((g :: hs).map PT).toArray.size) = (hs.map PT).toArray := by
    simp
    exact List.take_of_length_le (by simp)
  rw [e]
end

set_option maxRecDepth 100000 in
set_option maxHeartbeats 3200000 in
theorem BLen_any {X F : Nat → Prop} {w : World} {p c : Nat} {v : Value} {gs hs : List Nat} {l : List Int} (h0 : Bi X F w p c v gs hs l) :
    Calls Try.prog 22 #[.pointer (some ⟨p, 0, none⟩)] w fun e w' => e = .returned (.int .i64 l.length) ∧ Ext w w' := by
  refine calls_keep ?_
  have f1 := hide_ h0.f
  have hc := hide_ h0.ch
  have hgl := hide_ (show (gs.map PT).length = gs.length from List.length_map ..)
  have hhl := hide_ (show (hs.map PT).length = hs.length from List.length_map ..)
  have hsl := hide_ h0.row.sl
  have hlen := h0.len
  have hfew := h0.few
  clear h0
  go_enter Try.func22, Try.ntmps22
  go_wp2
  refine wp_region_phx (by kernel_rfl) ?_; intro wd hxd; have F1 := f1.out.ext hxd
  refine Ph.rest 0 12 (by kernel_rfl) ?_
  refine LinL.step (s := (.val (.pointer (some ⟨p, 0, none⟩)))) [(0, none)] rfl (by kernel_rfl) (op_out 0 (.pointer (some ⟨p, 0, none⟩)) rfl (.inl rfl) rfl) ?_
  refine LinL.step (s := (.val (.pointer (some ⟨p, 0, none⟩)))) [(3, some 0)] rfl (by kernel_rfl) (op_runs rfl fun σ w' hx hg => ⟨_, runs_nil (ρ := σ.eval) (w := w') (.tmp 3) rfl hg.1, rfl⟩) ?_
  refine LinL.step (s := (.val (.pointer (some ⟨p, 1, none⟩)))) [(4, some 0)] rfl (by kernel_rfl) (op_runs rfl fun σ w' hx hg => ⟨_, runs_field (ρ := σ.eval) (w := w') Try.stBag (.tmp 4) p 1 rfl hg.1 (by omega), rfl⟩) ?_
  refine LinL.step (s := (.val (v))) [(5, some 0)] rfl (by kernel_rfl) (op_runs rfl fun σ w' hx hg => ⟨_, runs_fload (ρ := σ.eval) (w := w') (.tmp 5) rfl hg.1 (agg_of (by kernel_rfl) _) (F1.ext hx) rfl, rfl⟩) ?_
  refine LinL.step (s := (.val (.int .i64 (gs.length : Nat)))) [(6, some 0)] rfl (by kernel_rfl) (op_runs rfl fun σ w' hx hg => ⟨_, runs_lenP (ρ := σ.eval) (w := w') (.tmp 6) rfl hg.1 (hsl.out.ext (hxd.trans hx)) hgl.out, rfl⟩) ?_
  refine LinL.step (s := (.val (.pointer (some ⟨p, 0, none⟩)))) [(0, none)] rfl (by kernel_rfl) (op_out 0 (.pointer (some ⟨p, 0, none⟩)) rfl (.inl rfl) rfl) ?_
  refine LinL.step (s := (.val (.pointer (some ⟨p, 0, none⟩)))) [(8, some 0)] rfl (by kernel_rfl) (op_runs rfl fun σ w' hx hg => ⟨_, runs_nil (ρ := σ.eval) (w := w') (.tmp 8) rfl hg.1, rfl⟩) ?_
  refine LinL.step (s := (.val (.pointer (some ⟨p, 0, none⟩)))) [(9, some 0)] rfl (by kernel_rfl) (op_runs rfl fun σ w' hx hg => ⟨_, runs_field (ρ := σ.eval) (w := w') Try.stBag (.tmp 9) p 0 rfl hg.1 (by omega), rfl⟩) ?_
  refine LinL.step (s := (.val (.chan (some c)))) [(10, some 0)] rfl (by kernel_rfl) (op_runs rfl fun σ w' hx hg => ⟨_, runs_fload (ρ := σ.eval) (w := w') (.tmp 10) rfl hg.1 (agg_of (by kernel_rfl) _) (F1.ext hx) rfl, rfl⟩) ?_
  refine LinL.step (s := (.val (.int .i64 (hs.length : Nat)))) [(11, some 0)] rfl (by kernel_rfl) (op_runs rfl fun σ w' hx hg => ⟨_, runs_lench (ρ := σ.eval) (w := w') (.tmp 11) Try.underlying63 rfl hg.1 (hc.out.ext (hxd.trans hx)) hhl.out, rfl⟩) ?_
  refine LinL.step (s := (.val (.int .i64 (l.length : Nat)))) [(7, some 5), (12, some 0)] rfl (by kernel_rfl) (op_runs rfl fun σ w' hx hg => ⟨_, runs_add (ρ := σ.eval) (w := w') (.tmp 7) (.tmp 12) ((l.length : Nat)) (by omega) (by omega) rfl hg.1 hg.2.1, rfl⟩) ?_
  refine LinL.step (s := (.val (.int .i64 (l.length : Nat)))) [(13, some 0)] rfl (by kernel_rfl) (op_copy 13 0 (.val (.int .i64 (l.length : Nat))) rfl (.inr rfl) rfl) ?_
  intro wN hxN
  simp only [Fin', List.reverse_cons, List.reverse_nil, List.nil_append, List.cons_append, List.drop_zero, List.take_succ_cons, List.take_zero]
  simp only [Act.put, List.setIfInBounds_toArray, List.set_cons_zero, List.set_cons_succ]
  replace hX := hxd.trans hxN
  go_wp2
  go_ret
  exact Keep.intro ⟨rfl, hX⟩
set_option maxRecDepth 100000 in
set_option maxHeartbeats 3200000 in
theorem BNew_any {w : World} : Calls Try.prog 14 #[] w fun e w' => ∃ p F, e = .returned (.pointer (some ⟨p, 0, none⟩)) ∧ Bg F w' p [] ∧ Ext w w' ∧ (∀ k, F k → w.heap.size ≤ k) := by
  refine calls_keep ?_
  go_enter Try.func14, Try.ntmps14
  go_wp2_with ((first
    | (refine w_mkchan _ 4000 Try.underlying63 (by kernel_rfl) rfl rfl rfl (by omega) ?_; intro c w1 hc hX hch)
    | ((with_reducible refine at_sbuild ?_); refine w_sbuild Try.stBag [.chan (some c), .slice none 0 0] rfl rfl rfl (by intro p hp; simp at hp; subst hp; exact ⟨by decide, rfl⟩) ?_)
    | ((with_reducible refine at_box ?_); refine w_box _ [.chan (some c), .slice none 0 0] rfl rfl rfl rfl ?_; intro p w2 hp hx f1; replace hp := hide_ hp; have hc2 := hide_ (hch.ext hx); replace hX := hide_ hX; replace hx := hide_ hx; replace hc := hide_ hc; replace hch := hide_ hch)
    | fail) <;> (try simp only [Act.put, List.setIfInBounds_toArray, List.set_cons_zero, List.set_cons_succ]))
  go_ret
  refine Keep.intro ⟨p, fun k => k = p ∨ k = c, rfl, ⟨c, _, [], [], f1, hc2.out, Row.nil _ _, .inl rfl, .inr rfl, ?_, ?_, rfl, by simp, fun i g x h1 _ => by simp at h1⟩, hX.out.trans hx.out, ?_⟩
  · have := hp.out; have := hch.out.lt; omega
  · rintro k (rfl | rfl)
    · exact f1.lt
    · exact hc2.out.lt
  · rintro k (rfl | rfl)
    · have := hX.out.size; have := hp.out; omega
    · exact hc.out
end Go.Proofs.Ytkkbpmkeemfppaa
