/- Ranges over functions: what a walk knows of operations that it knows in a round, too; a call of yield; the statement by a contract of the iterator that tells which blocks the rounds may turn, so that an iterator may itself range over another one. -/
import Derived.Test.YtmhmkaginnddeaaFC
import Derived.RangeFuncNested
import Derived.RangeFuncLeaves
import Derived.OrdersIn
namespace Go.Proofs.Ytmhmkaginnddeaa
set_option maxRecDepth 100000
open Go.RowKit

/-- Frames of a round of loop r, or of none; all else is let be. -/
def Fr (r : Option Nat) : Fence := { Fence.wide with round := r }
/-- What lets nothing run out of room. -/
def noOut (Q : Exit → Act → World → Prop) : Exit → Act → World → Prop
  | .outgrown, _, _ => False
  | e, a, w => Q e a w
theorem noOut_n {Q : Exit → Act → World → Prop} {a : Act} {w : World} (h : Q .normal a w) : noOut Q .normal a w := h
def isDefer (o : Oper) : Bool := match o.op with | .defer _ => true | _ => false
def noDefers (l : List Oper) : Bool := l.all fun o => !isDefer o
theorem not_defer {o : Oper} (h : isDefer o = false) : ∀ c, o.op ≠ .defer c := fun c e => by simp [isDefer, e] at h
section
variable {P : Program} {r : Option Nat} {n : Nat} {ops : Array Oper} {Q : Exit → Act → World → Prop} {a : Act} {w : World} {o : Oper}
theorem callsIn_fr {f : FuncId} {args : Array Value} {R : Ending → World → Prop} (h : Calls P f args w R) : CallsIn (Fr r) n P f args w R :=
  show CallsIn Fence.wide n P f args w R from callsIn_wide.2 h
theorem calls_fr {f : FuncId} {args : Array Value} {R : Ending → World → Prop} (h : CallsIn (Fr r) n P f args w R) : Calls P f args w R :=
  callsIn_wide.1 (show CallsIn Fence.wide n P f args w R from h)
theorem roundIn_fr {m l : Nat} {f : FuncId} {tmps : Array Value} {assign body : Code} {R : Ending → World → Prop} (h : RoundIn Fence.wide m P l f tmps assign body w R) : RoundIn (Fr r) n P l f tmps assign body w R :=
  ⟨trivial, fun c cs _ => h.2 c cs (room_wide _)⟩
theorem roundIn_wide {m l : Nat} {f : FuncId} {tmps : Array Value} {assign body : Code} {R : Ending → World → Prop} (h : RoundIn (Fr r) m P l f tmps assign body w R) : RoundIn Fence.wide n P l f tmps assign body w R :=
  ⟨trivial, fun c cs _ => h.2 c cs (show Fence.wide.room _ from room_wide _)⟩
theorem rowsIn_fr {row : String} {args : Array Value} {R : Value → World → Prop} (h : Rows P row args w R) : RowsIn (Fr r) n P row args w R :=
  fun c cs _ => let ⟨v, w', hr, hs⟩ := h c cs; ⟨v, w', hr, (show StepsIn (Machine.fenced P Fence.wide) P _ _ from stepsIn_wide.2 hs)⟩
theorem opIn {K : Act → World → Prop} (hd : isDefer o = false) (h : o.wp P a w K (noOut Q)) : o.wpIn (Fr r) n P a w K Q := by
  refine ⟨fun _ _ => trivial, ?_⟩
  rw [Oper.semAt_eq _ _ _ (not_defer hd)]
  unfold Oper.wp at h
  generalize (execOp a.eval o).run P w = res at h
  cases res with
  | ok x w' =>
    cases x with
    | value v => exact h
    | skip => exact h
    | defer d => exact h
    | enter f args =>
      refine ⟨fun hs => by simp [Fr, Fence.wide] at hs, (callsIn_fr h).mono fun e w'' he => ?_⟩
      cases e with
      | returned v => exact he
      | panicked c => exact he
      | outgrown => obtain ⟨_, _, hf⟩ := he; exact hf.elim
    | row row args => exact ⟨fun hs => by simp [Fr, Fence.wide] at hs, rowsIn_fr h⟩
    | _ => exact h.elim
  | halt x w' =>
    cases x with
    | panic v => exact h
    | _ => exact h.elim
/-- What is known of a list of operations is known of it in a round. -/
theorem listIn : ∀ {l : List Oper} {a : Act} {w : World}, noDefers l = true → wpList P ops (noOut Q) l a w → wpListIn (Fr r) n P ops Q l a w
  | [], _, _, _, h => h
  | o :: l, a, w, hd, h => by
    simp only [noDefers, List.all_cons, Bool.and_eq_true, Bool.not_eq_true'] at hd
    unfold wpList at h
    unfold wpListIn
    split
    · rename_i hw
      rw [if_pos hw] at h
      rcases h with h | ⟨_, _, _, h⟩
      · exact Oper.wpIn_mono (fun a w hr => listIn (l := l) (by simpa [noDefers] using hd.2) hr) (opIn hd.1 h)
      · exact h.elim
    · rename_i hw
      rw [if_neg hw] at h
      exact ⟨fun _ _ => trivial, listIn (l := l) (by simpa [noDefers] using hd.2) h⟩
theorem anyIn {md : Region.Mode} (hd : noDefers ops.toList = true) : ∀ (fuel : Nat) (listed : Array Bool) (a : Act) (w : World), wpAny P md ops (noOut Q) fuel listed a w → wpAnyIn (Fr r) n P md ops Q fuel listed a w
  | 0, _, _, _, h => h
  | fuel + 1, listed, a, w, h => by
    refine ⟨h.1, fun i hi => ?_⟩
    have h1 := h.2 i hi
    unfold wpOp at h1
    unfold wpOpIn
    cases ho : ops[i]? with
    | none => rw [ho] at h1; exact anyIn hd fuel _ _ _ h1
    | some o =>
      rw [ho] at h1
      simp only at h1 ⊢
      split
      · rename_i hw
        rw [if_pos hw] at h1
        rcases h1 with h1 | ⟨_, _, _, h1⟩
        · have hdo : isDefer o = false := by
            have := List.all_eq_true.1 hd o (by have := Array.mem_of_getElem? ho; simpa using this)
            simpa using this
          exact Oper.wpIn_mono (fun a w hr => anyIn hd fuel _ a w hr) (opIn hdo h1)
        · exact h1.elim
      · rename_i hw
        rw [if_neg hw] at h1
        exact ⟨fun _ _ => trivial, anyIn hd fuel _ _ _ h1⟩
/-- A region, as a list. -/
theorem region_in {id : Nat} {l : List Oper} (hd : noDefers l = true) (h : wpList P l.toArray (noOut Q) l a w) : (Code.region id l.toArray false).wpIn (Fr r) n P Q a w := wpIn_region_lit (listIn hd h)
/-- A region that draws its order, in phases. -/
theorem region_phx_in {id : Nat} (hm : P.follows .mixedOrders = true) (hd : noDefers ops.toList = true) (h : ∀ w1, Ext w w1 → Ph P ops (noOut Q) 0 a w1) : (Code.region id ops true).wpIn (Fr r) n P Q a w := by
  refine wpIn_region_any hm ?_
  have h1 := h _ (Ext.refl w).drew
  unfold Ph at h1
  have e : doneTo ops 0 = Array.replicate ops.size false := by
    apply Array.ext
    · simp [doneTo]
    · intro i h1 h2; simp [doneTo]
  rw [e] at h1
  exact anyIn hd _ _ _ _ h1
/-- A call of yield. -/
theorem w_yield {rest : List Oper} (x : Operand) {xs : Array Operand} {ts : Array TypeId} {l m : Nat} {args : Array Value} {R : Ending → World → Prop} (hw : Region.wanted o (yielded ops a.tmps) = true) (ho : o.op = .call { callee := .value x, args := xs, argTypes := ts })
    (hx : a.eval x = .func (.yield l) #[] #[]) (hxs : xs.map a.eval = args) (h : YieldAt Fence.wide m P l args w R) (k : ∀ e W', R e W' → ∃ v, e = .returned v ∧ wpListIn (Fr r) n P ops Q rest (a.put o.dst v) W') : wpListIn (Fr r) n P ops Q (o :: rest) a w := by
  obtain ⟨fn, tmps, assign, body, hy, hR⟩ := h
  unfold wpListIn
  rw [if_pos hw]
  refine ⟨fun _ _ => trivial, ?_⟩
  rw [Oper.semAt_eq _ _ _ (fun c e => by rw [ho] at e; cases e)]
  have hrun : (execOp a.eval o).run P w = .ok (.round l fn tmps assign body) w := by
    unfold execOp
    simp [ho, resolve, hx, hxs, invoke, Deferred.ofValue, hy]
  rw [hrun]
  refine ⟨fun hs => by simp [Fr, Fence.wide] at hs, (roundIn_fr hR).mono fun e W' he => ?_⟩
  obtain ⟨v, rfl, hk⟩ := k e W' he
  exact hk
/-- A call of yield, without a guard. -/
theorem w_yield0 {rest : List Oper} (x : Operand) {xs : Array Operand} {ts : Array TypeId} {l m : Nat} {args : Array Value} {R : Ending → World → Prop} (hgd : o.guard = none) (ho : o.op = .call { callee := .value x, args := xs, argTypes := ts })
    (hx : a.eval x = .func (.yield l) #[] #[]) (hxs : xs.map a.eval = args) (h : YieldAt Fence.wide m P l args w R) (k : ∀ e W', R e W' → ∃ v, e = .returned v ∧ wpListIn (Fr r) n P ops Q rest (a.put o.dst v) W') : wpListIn (Fr r) n P ops Q (o :: rest) a w := by
  obtain ⟨fn, tmps, assign, body, hy, hR⟩ := h
  unfold wpListIn
  rw [if_pos (by simp [Region.wanted, hgd])]
  refine ⟨fun _ _ => trivial, ?_⟩
  rw [Oper.semAt_eq _ _ _ (fun c e => by rw [ho] at e; cases e)]
  have hrun : (execOp a.eval o).run P w = .ok (.round l fn tmps assign body) w := by
    unfold execOp
    simp [ho, resolve, hx, hxs, invoke, Deferred.ofValue, hy]
  rw [hrun]
  refine ⟨fun hs => by simp [Fr, Fence.wide] at hs, (roundIn_fr hR).mono fun e W' he => ?_⟩
  obtain ⟨v, rfl, hk⟩ := k e W' he
  exact hk
/-- A guard that says yes. -/
theorem wi_yes {rest : List Oper} {F : Fence} (g t : Nat) (b : Bool) (hgd : o.guard = some (g, b)) (hd : (ops[g]?).bind (·.dst) = some t)
    (hv : a.tmps.getD t undef = .bool b) (h : wpListIn F n P ops Q (⟨o.dst, o.op, o.type, o.pos, o.after, none⟩ :: rest) a w) : wpListIn F n P ops Q (o :: rest) a w := by
  have hy := yielded_of (ops := ops) hd hv
  unfold wpListIn at h ⊢
  rw [if_pos (by simp [Region.wanted])] at h
  rw [if_pos (by simp [Region.wanted, hgd, hy])]
  exact h
end
theorem Mod.putObj (w : World) (b : Nat) (o : Obj) : Mod (fun k => k = b) w (w.putObj b o) :=
  ⟨rfl, rfl, rfl, by simp, fun k _ hk => World.putObj_heap_other hk⟩
theorem Mod.below {F : Nat → Prop} {w w' : World} {B : Nat} (h : Mod F w w') (hB : B ≤ w.heap.size) (hF : ∀ k, F k → B ≤ k) : Below B w w' :=
  ⟨h.os, h.tape, h.output, h.size, fun k hk => h.block k (by omega) fun hf => by have := hF k hf; omega⟩
/-- What a function gives, called with yield in a world behind w: xs, one after the other; a round that turns but blocks of G, and such as were made between w and the call, lets it go on. J k: k rounds are over; Jx k: the k-th has said that it is enough. -/
def Seq (P : Program) (g : Nat) (lb : Array Value) (xs : List (Array Value)) (G : Nat → Prop) (w : World) : Prop :=
  ∀ (l : Nat) (J Jx : Nat → World → Prop) (W : World), Ext w W → (∀ k A B, J k A → Below W.heap.size A B → J k B) → (∀ k A B, Jx k A → Below W.heap.size A B → Jx k B) →
    (∀ (k : Nat) (hk : k < xs.length) (W1 : World), W.heap.size ≤ W1.heap.size → J k W1 → YieldAt Fence.wide 0 P l xs[k] W1 fun e W' =>
      Mod (fun b => G b ∨ (w.heap.size ≤ b ∧ b < W.heap.size)) W1 W' ∧ ((e = .returned (.bool true) ∧ J (k + 1) W') ∨ (e = .returned (.bool false) ∧ Jx (k + 1) W'))) →
    J 0 W → Calls P g (#[.func (.yield l) #[] #[]] ++ lb) W fun e W' => (∃ v, e = .returned v) ∧ (J xs.length W' ∨ ∃ k, k ≤ xs.length ∧ Jx k W')
/-- How a round's body may be left. -/
def seqPost (G : Nat → Prop) (I : Nat → World → Prop) (Ix : Code → Nat → World → Prop) (k : Nat) (W : World) : Exit → Act → World → Prop
  | .normal, _, W' => Mod G W W' ∧ I (k + 1) W'
  | .ret, _, W' => Mod G W W' ∧ Ix .ret (k + 1) W'
  | .exit id, _, W' => Mod G W W' ∧ Ix (.exit id) (k + 1) W'
  | .goto t, _, W' => Mod G W W' ∧ Ix (.goto t) (k + 1) W'
  | .panic _, _, _ => False
  | .outgrown, _, _ => False
/-- The statement. -/
theorem wp_rangeSeq {P : Program} {n : Nat} {g : Operand} {ps : Array Tmp} {assign body : Code} {Q : Exit → Act → World → Prop} {a : Act} {w w0 : World} {gf : Nat} {lb : Array Value} {xs : List (Array Value)} {G G1 : Nat → Prop}
    (hg : a.eval g = .func (.func gf) #[] lb) (eg : ∀ args w, (callFunc gf args).run P w = .ok (.enter gf args) w) (hseq : Seq P gf lb xs G w0) (hb0 : Ext w0 w) (hps : ∀ x ∈ xs, x.size = ps.size)
    (hG : ∀ b, G1 b → b < w.heap.size ∧ (G b ∨ w0.heap.size ≤ b))
    (I : Nat → World → Prop) (Ix : Code → Nat → World → Prop) (hI : ∀ k A B, I k A → Below w.heap.size A B → I k B) (hIx : ∀ c k A B, Ix c k A → Below w.heap.size A B → Ix c k B) (h0 : I 0 w) (a₁ : Nat → Act)
    (hassign : ∀ (l k : Nat) (hk : k < xs.length) (W : World) (K : Act → World → Prop), K (a₁ k) W →
      assign.wpIn (Fr (some l)) n P (Exit.then K (fun _ _ _ => False)) { tmps := (ps.zip xs[k]).foldl (fun t (p, v) => t.setIfInBounds p v) a.tmps, defers := [] } W)
    (hbody : ∀ (l k : Nat) (_ : k < xs.length) (W : World), w.heap.size ≤ W.heap.size → I k W → body.wpIn (Fr (some l)) n P (seqPost G1 I Ix k W) (a₁ k) W)
    (hdone : ∀ (D : Nat) (W : World), w.heap.size ≤ D → I xs.length W → W.heap[D]? = some (.deferred (some [])) → Q .normal { a with defers := { target := .collected D, args := #[] } :: a.defers } W)
    (hstop : ∀ (D : Nat) (c : Code) (k : Nat) (W : World), w.heap.size ≤ D → k ≤ xs.length → Ix c k W → W.heap[D]? = some (.deferred (some [])) → c.wpIn (Fr none) n P Q { a with defers := { target := .collected D, args := #[] } :: a.defers } W) :
    (Code.rangeFunc g ps assign body).wpIn (Fr none) n P Q a w := by
  refine wpIn_rangeFunc ?_
  intro fn hfn
  show ∃ l mark w₁ d w₁' f args w₂, (Instr.enterLoop fn a.tmps ps assign body none).run P w = _ ∧ _
  obtain ⟨rec, hrec⟩ : ∃ rec : LoopState → Option Code → Loop, rec = fun st pe => { state := st, pending := pe, fn, tmps := a.tmps, params := ps, assign, body, defers := w.heap.size } := ⟨_, rfl⟩
  obtain ⟨W1, hW1⟩ : ∃ W1, (w.alloc (.deferred (some []))).alloc (.loop (rec .ready none)) = W1 := ⟨_, rfl⟩
  have hsz : W1.heap.size = w.heap.size + 2 := by rw [← hW1]; simp
  have hL1 : W1.heap[w.heap.size + 1]? = some (.loop (rec .ready none)) := by
    rw [← hW1]; have := World.alloc_heap_new (w.alloc (.deferred (some []))) (.loop (rec .ready none)); rwa [World.size_alloc] at this
  have hK1 : W1.heap[w.heap.size]? = some (.deferred (some [])) := by
    rw [← hW1]; exact (Below.heap_alloc _ _ _ (by simp)).trans (World.alloc_heap_new w _)
  have hx1 : Ext w W1 := by rw [← hW1]; exact ((Ext.refl w).alloc _).alloc _
  refine ⟨w.heap.size + 1, [{ target := .collected w.heap.size, args := #[] }], W1, { target := .fn (.func gf) lb, args := #[.func (.yield (w.heap.size + 1)) #[] #[]] }, W1, gf,
    #[.func (.yield (w.heap.size + 1)) #[] #[]] ++ lb, W1, ?_, ?_, ?_, ?_, fun hs => by simp [Fr, Fence.wide] at hs, ?_⟩
  · rw [← hW1, hrec]; exact run_enterLoop_outer _ _ _ _ _
  · simp only [resolve, hg]
    simp [go_sem]
  · intro _ _; trivial
  · simp [invoke, go_sem, eg]
  · have keep : ∀ {A B : World} {k : Nat} {o : Obj}, k < w.heap.size + 2 → A.heap[k]? = some o → Below W1.heap.size A B → B.heap[k]? = some o := fun hk ho hb => (hb.block _ (by omega)).trans ho
    refine callsIn_fr (Calls.mono (hseq (w.heap.size + 1)
      (fun k W => I k W ∧ W.heap[w.heap.size + 1]? = some (.loop (rec .ready none)) ∧ W.heap[w.heap.size]? = some (.deferred (some [])))
      (fun k W => ∃ c, Ix c k W ∧ W.heap[w.heap.size + 1]? = some (.loop (rec .done (some c))) ∧ W.heap[w.heap.size]? = some (.deferred (some [])))
      W1 (hb0.trans hx1)
      (fun k A B hs hb => ⟨hI k A B hs.1 (hb.mono (by omega)), keep (by omega) hs.2.1 hb, keep (by omega) hs.2.2 hb⟩)
      (fun k A B ⟨c, hc, hl, hk⟩ hb => ⟨c, hIx c k A B hc (hb.mono (by omega)), keep (by omega) hl hb, keep (by omega) hk hb⟩)
      ?_ ⟨hI 0 _ _ h0 hx1, hL1, hK1⟩) ?_)
    · -- one round
      rintro k hk W hszW ⟨hi, hl, hd⟩
      have hlt : w.heap.size + 1 < W.heap.size := (Array.getElem?_eq_some_iff.1 hl).1
      have hy := run_yield (P := P) (args := xs[k]) hl (by rw [hrec]; exact hps _ (List.getElem_mem hk))
      rw [hrec] at hy
      refine ⟨fn, _, assign, body, hy, roundIn_wide (r := none) (m := n) (roundIn_of_wpIn (n := n) (F := Fr none) trivial (show assign.wpIn (Fr (some (w.heap.size + 1))) n P _ _ _ from hassign _ k hk W _ ?_))⟩
      refine ⟨_, run_beginRound hl (by rw [hrec]), ?_⟩
      have hl2 : (W.putObj (w.heap.size + 1) (.loop { rec .ready none with state := .busy })).heap[w.heap.size + 1]? = some (.loop { rec .ready none with state := .busy }) := World.putObj_heap_same hlt
      have hd2 : (W.putObj (w.heap.size + 1) (.loop { rec .ready none with state := .busy })).heap[w.heap.size]? = some (.deferred (some [])) := (World.putObj_heap_other (by omega)).trans hd
      have put : ∀ (V : World) (o : Obj), w.heap.size + 1 < V.heap.size → Below w.heap.size V (V.putObj (w.heap.size + 1) o) := fun V o hv => (Mod.putObj V _ o).below (by omega) (fun _ e => by omega)
      show body.wpIn (Fr (some (w.heap.size + 1))) n P _ _ _
      refine wpIn_mono (hbody _ k hk _ (by simp; omega) (hI _ _ _ hi (put W _ hlt))) ?_
      have fin : ∀ (jump : Option Code) (W3 : World), Mod G1 (W.putObj (w.heap.size + 1) (.loop { rec .ready none with state := .busy })) W3 →
          (Instr.endRound (w.heap.size + 1) jump).run P W3 = .ok (.bool jump.isNone) (W3.putObj (w.heap.size + 1) (.loop (rec (if jump.isNone then .ready else .done) jump))) ∧
          Below w.heap.size W3 (W3.putObj (w.heap.size + 1) (.loop (rec (if jump.isNone then .ready else .done) jump))) ∧
          (W3.putObj (w.heap.size + 1) (.loop (rec (if jump.isNone then .ready else .done) jump))).heap[w.heap.size + 1]? = some (.loop (rec (if jump.isNone then .ready else .done) jump)) ∧
          (W3.putObj (w.heap.size + 1) (.loop (rec (if jump.isNone then .ready else .done) jump))).heap[w.heap.size]? = some (.deferred (some [])) ∧
          Mod (fun b => G b ∨ (w0.heap.size ≤ b ∧ b < W1.heap.size)) W (W3.putObj (w.heap.size + 1) (.loop (rec (if jump.isNone then .ready else .done) jump))) := fun jump W3 hk3 => by
        have hl3 := (hk3.block (w.heap.size + 1) (by simp; omega) (fun hg1 => by have := (hG _ hg1).1; omega)).trans hl2
        have hd3 := (hk3.block w.heap.size (by simp; omega) (fun hg1 => by have := (hG _ hg1).1; omega)).trans hd2
        have hlt3 : w.heap.size + 1 < W3.heap.size := (Array.getElem?_eq_some_iff.1 hl3).1
        have he := run_endRound (P := P) jump hl3
        rw [hrec] at he ⊢
        have h00 := hb0.size
        exact ⟨he, put W3 _ hlt3, World.putObj_heap_same hlt3, (World.putObj_heap_other (by omega)).trans hd3,
          Mod.trans (F := fun b => G b ∨ (w0.heap.size ≤ b ∧ b < W1.heap.size)) (G := fun b => G b ∨ (w0.heap.size ≤ b ∧ b < W1.heap.size)) ((Mod.putObj W _ _).mono fun b _ e => .inr ⟨by omega, by omega⟩)
            (Mod.trans (F := fun b => G b ∨ (w0.heap.size ≤ b ∧ b < W1.heap.size)) (G := fun b => G b ∨ (w0.heap.size ≤ b ∧ b < W1.heap.size)) (hk3.mono fun b _ h => (hG b h).2.imp id fun h' => ⟨h', by have := (hG b h).1; omega⟩)
              ((Mod.putObj W3 _ _).mono fun b _ e => .inr ⟨by omega, by omega⟩) fun _ _ h => h) fun _ _ h => h⟩
      rintro e a3 W3 hp
      cases e with
      | normal =>
        obtain ⟨hk3, hi3⟩ := hp
        obtain ⟨hr, hb3, hl4, hk4, hm⟩ := fin none W3 hk3
        exact ⟨_, _, hr, hm, .inl ⟨rfl, hI _ _ _ hi3 hb3, hl4, hk4⟩⟩
      | ret =>
        obtain ⟨hk3, hi3⟩ := hp
        obtain ⟨hr, hb3, hl4, hk4, hm⟩ := fin (some .ret) W3 hk3
        exact ⟨_, _, hr, hm, .inr ⟨rfl, .ret, hIx _ _ _ _ hi3 hb3, hl4, hk4⟩⟩
      | exit id =>
        obtain ⟨hk3, hi3⟩ := hp
        obtain ⟨hr, hb3, hl4, hk4, hm⟩ := fin (some (.exit id)) W3 hk3
        exact ⟨_, _, hr, hm, .inr ⟨rfl, .exit id, hIx _ _ _ _ hi3 hb3, hl4, hk4⟩⟩
      | goto t =>
        obtain ⟨hk3, hi3⟩ := hp
        obtain ⟨hr, hb3, hl4, hk4, hm⟩ := fin (some (.goto t)) W3 hk3
        exact ⟨_, _, hr, hm, .inr ⟨rfl, .goto t, hIx _ _ _ _ hi3 hb3, hl4, hk4⟩⟩
      | panic ch => exact hp.elim
      | outgrown => exact hp.elim
    · -- behind the iterator
      have put : ∀ (V : World) (o : Obj), w.heap.size + 1 < V.heap.size → Below w.heap.size V (V.putObj (w.heap.size + 1) o) := fun V o hv => (Mod.putObj V _ o).below (by omega) (fun _ e => by omega)
      rintro e W2 ⟨⟨v, rfl⟩, (⟨hi, hl, hk⟩ | ⟨k, hk', c, hi, hl, hk⟩)⟩
      · exact ⟨none, _, by have := run_endLoop (P := P) hl (by rw [hrec]; simp); rw [hrec] at this; exact this, hdone _ _ (Nat.le_refl _) (hI _ _ _ hi (put _ _ (Array.getElem?_eq_some_iff.1 hl).1)) ((World.putObj_heap_other (by omega)).trans hk)⟩
      · exact ⟨some c, _, by have := run_endLoop (P := P) hl (by rw [hrec]; simp); rw [hrec] at this; exact this, hstop _ c k _ (Nat.le_refl _) hk' (hIx c _ _ _ hi (put _ _ (Array.getElem?_eq_some_iff.1 hl).1)) ((World.putObj_heap_other (by omega)).trans hk)⟩
end Go.Proofs.Ytmhmkaginnddeaa
