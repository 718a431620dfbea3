/- A map of records by numbers, as a list; the object that is a tree of blocks: what it holds. -/
import Derived.Test.YtdacclcaopmalaaBk1
import Derived.Test.YtdacclcaopmalaaTreeG
import Derived.Test.YtdacclcaopmalaaRowSt
import Derived.Maps.RangeWalk
import Derived.Maps.OwnSet
import Derived.Lib.SlKeysI
namespace Go.Proofs.Ytdacclcaopmalaa
set_option maxRecDepth 100000
open Go.RowKit

/-- A value, as it stands. -/
def tok (v : Value) : Option (DataW Value × List MemPlace) := some (.held v, [])
/-- The datum of a map that holds just these. -/
structure MapF (D : DataW Value) (kn : List (Int × Value)) : Prop where
  ex : ∃ es, D = .map es ∧ es.Perm (kn.map fun p => (Lit.int .i64 p.1, DataW.held p.2))
  nd : (kn.map (·.1)).Nodup
theorem sameKey_int (a b : Int) : (Lit.int .i64 a).sameKey (.int .i64 b) = decide (a = b) := by simp [Lit.sameKey]
theorem atKey_find (es : List (Go.Lit × DataW Value)) (k : Go.Lit) (z : DataW Value) : (DataW.map es).atKey k z = ((es.find? fun p => p.1.sameKey k).map (·.2)).getD z := by
  unfold DataW.atKey
  simp only
  cases es.find? (fun p => p.1.sameKey k) <;> rfl
section
variable {D : DataW Value} {kn : List (Int × Value)}
theorem MapF.has (h : MapF D kn) (j : Int) : Maps.has D (.int .i64 j) = kn.any fun p => decide (p.1 = j) := by
  obtain ⟨es, rfl, hp⟩ := h.ex
  rw [Maps.has_eq, Bool.eq_iff_iff]
  simp only [List.any_eq_true]
  constructor
  · rintro ⟨q, hq, hs⟩
    obtain ⟨p, hpk, rfl⟩ := List.mem_map.1 (hp.mem_iff.1 hq)
    exact ⟨p, hpk, by rw [← sameKey_int]; exact hs⟩
  · rintro ⟨p, hpk, hs⟩
    exact ⟨_, hp.mem_iff.2 (List.mem_map.2 ⟨p, hpk, rfl⟩), by rw [sameKey_int]; exact hs⟩
theorem nd_eq {p q : Int × Value} : ∀ {l : List (Int × Value)}, (l.map (·.1)).Nodup → p ∈ l → q ∈ l → p.1 = q.1 → p = q
  | [], _, hp, _, _ => by cases hp
  | x :: l, hn, hp, hq, he => by
    rw [List.map_cons, List.nodup_cons] at hn
    rcases List.mem_cons.1 hp with rfl | hp'
    · rcases List.mem_cons.1 hq with rfl | hq'
      · rfl
      · exact absurd (List.mem_map.2 ⟨q, hq', he.symm⟩) hn.1
    · rcases List.mem_cons.1 hq with rfl | hq'
      · exact absurd (List.mem_map.2 ⟨p, hp', he⟩) hn.1
      · exact nd_eq hn.2 hp' hq' he
theorem MapF.hit (h : MapF D kn) {j : Int} {v : Value} (hp : (j, v) ∈ kn) (z : DataW Value) : D.atKey (.int .i64 j) z = .held v := by
  obtain ⟨es, rfl, hpm⟩ := h.ex
  rw [atKey_find]
  cases hf : es.find? (fun p => p.1.sameKey (.int .i64 j)) with
  | none =>
    have := List.find?_eq_none.1 hf _ (hpm.mem_iff.2 (List.mem_map.2 ⟨_, hp, rfl⟩))
    simp [sameKey_int] at this
  | some q =>
    have h1 := List.mem_of_find?_eq_some hf
    have h2 := List.find?_some hf
    obtain ⟨p, hpk, rfl⟩ := List.mem_map.1 (hpm.mem_iff.1 h1)
    have h3 : p.1 = j := by simpa [sameKey_int] using h2
    have := nd_eq h.nd hpk hp h3
    subst this; rfl
theorem MapF.miss (h : MapF D kn) {j : Int} (hp : ∀ p ∈ kn, p.1 ≠ j) (z : DataW Value) : D.atKey (.int .i64 j) z = z := by
  obtain ⟨es, rfl, hpm⟩ := h.ex
  rw [atKey_find, List.find?_eq_none.2]
  · rfl
  intro q hq
  obtain ⟨p, hpk, rfl⟩ := List.mem_map.1 (hpm.mem_iff.1 hq)
  simpa [sameKey_int] using hp p hpk
theorem MapF.size (h : MapF D kn) : Maps.size D = kn.length := by
  obtain ⟨es, rfl, hpm⟩ := h.ex
  rw [Maps.size_eq, hpm.length_eq, List.length_map]
theorem MapF.put (h : MapF D kn) {j : Int} {v : Value} (hn : ∀ p ∈ kn, p.1 ≠ j) : MapF (D.put (.int .i64 j) (.held v)) (kn ++ [(j, v)]) := by
  obtain ⟨es, rfl, hpm⟩ := h.ex
  refine ⟨⟨_, rfl, ?_⟩, ?_⟩
  · have hfl : es.filter (fun p => !p.1.sameKey (.int .i64 j)) = es := List.filter_eq_self.2 fun q hq => by
      obtain ⟨p, hpk, rfl⟩ := List.mem_map.1 (hpm.mem_iff.1 hq)
      simpa [sameKey_int] using hn p hpk
    rw [hfl, List.map_append]
    exact ((WideShapes.insert_perm _ _).trans (hpm.cons _)).trans (List.perm_append_comm (l₁ := [_]))
  · rw [List.map_append, List.nodup_append]
    refine ⟨h.nd, by simp, ?_⟩
    intro a ha b hb
    obtain ⟨p, hpk, rfl⟩ := List.mem_map.1 ha
    simp at hb; subst hb
    exact hn p hpk
theorem MapF.keys (h : MapF D kn) : (intKeys D).Perm (kn.map (·.1)) := by
  obtain ⟨es, rfl, hpm⟩ := h.ex
  have := hpm.map (fun p : Go.Lit × DataW Value => intOf p.1)
  rw [List.map_map] at this
  exact this
theorem MapF.nil : MapF (.map []) [] := ⟨⟨[], rfl, List.Perm.refl _⟩, by simp⟩
end
theorem ownsMap_mod {F : Nat → Prop} {w w' : World} {P : Program} {k : TypeId} {R : Value → Option (DataW Value × List MemPlace)} {b n : Nat} {D : DataW Value} (h : w.ownsMap P k R b n D) (hm : Mod F w w') (hn : ¬ F b) : w'.ownsMap P k R b n D := by
  have hl := h.lt
  obtain ⟨es, clock, hb, r⟩ := h
  exact ⟨es, clock, (hm.block b hl hn).trans hb, r⟩
theorem ownsMap_ext {w w' : World} {P : Program} {k : TypeId} {R : Value → Option (DataW Value × List MemPlace)} {b n : Nat} {D : DataW Value} (h : w.ownsMap P k R b n D) (he : Ext w w') : w'.ownsMap P k R b n D :=
  ownsMap_mod h (he.mod fun _ => False) id
theorem SlS.mod {F : Nat → Prop} {w w' : World} {v : Value} {n : Nat} {rows : List (List Value)} (h : SlS w v n rows) (hm : Mod F w w') (hn : ∀ k, v.ownBlock = some k → ¬ F k) : SlS w' v n rows := by
  obtain ⟨A, c, rfl, h2, h3, h4⟩ := h
  refine ⟨A, c, rfl, h2, h3, fun k row hk => ?_⟩
  obtain ⟨h5, ad, rfl, h7⟩ := h4 k row hk
  exact ⟨h5, ad, rfl, h7.mod hm (by rw [blk_add]; exact hn ad.block rfl)⟩
theorem recsT_mod {F : Nat → Prop} {w w' : World} {v : Value} {l : List TxD} (h : Recs 2 TxR w v l) (hm : Mod F w w') (hn : ∀ k, v.ownBlock = some k → ¬ F k) : Recs 2 TxR w' v l := by
  obtain ⟨rows, h1, h2, h3⟩ := h
  exact ⟨rows, h1.mod hm hn, h2, fun k row d hk hd => h3 k row d hk hd⟩
/-- Transactions in a block of memory that is one of X. -/
def TxX (X : Nat → Prop) (w : World) (u : Value) (d : BlkD) : Prop := Recs 2 TxR w u d.txs ∧ d.Raw ∧ ∀ k, u.ownBlock = some k → X k ∧ k < w.heap.size
section
variable {X Y F : Nat → Prop} {w w' : World} {u : Value} {d : BlkD}
theorem TxX.ext (h : TxX X w u d) (he : Ext w w') : TxX X w' u d := ⟨h.1.ext TxR.stays he, h.2.1, fun k hk => ⟨(h.2.2 k hk).1, Nat.lt_of_lt_of_le (h.2.2 k hk).2 he.size⟩⟩
theorem TxX.mod (h : TxX X w u d) (hm : Mod F w w') (hn : ∀ k, X k → ¬ F k) : TxX X w' u d := ⟨recsT_mod h.1 hm fun k hk => hn k (h.2.2 k hk).1, h.2.1, fun k hk => ⟨(h.2.2 k hk).1, Nat.lt_of_lt_of_le (h.2.2 k hk).2 hm.size⟩⟩
theorem TxX.mono (h : TxX X w u d) (hn : ∀ k, X k → Y k) : TxX Y w u d := ⟨h.1, h.2.1, fun k hk => ⟨hn k (h.2.2 k hk).1, (h.2.2 k hk).2⟩⟩
end
/-- The cells of a block. -/
def bRow (d : BlkD) (u : Value) : List Value := [.int .i64 d.slot, .int .i64 d.miner, .int .i64 d.var, .int .i64 d.parent, u]
/-- A known block, as the map has it. -/
def kVal (d : BlkD) (u : Value) (h : Int) : Value := .agg #[.int .i64 d.slot, .int .i64 d.miner, .int .i64 d.var, .int .i64 d.parent, u, .int .i64 h]
def kZero : Value := .agg #[.int .i64 0, .int .i64 0, .int .i64 0, .int .i64 0, .slice none 0 0, .int .i64 0]
/-- Blocks that are known and that wait: what holds of them on the way, too. -/
structure Fit8 (K V : List BlkD) : Prop where
  right : ∀ b ∈ K ++ V, b.Right
  nodup : ((K ++ V).map BlkD.name).Nodup
  stood : TrS.Stood K
  few : V.length ≤ 17
  room : K.length ≤ 400
theorem Fit8.uq {K V : List BlkD} (h : Fit8 K V) : TrS.Uq K := TrS.uq_of (fun b hb => h.right b (List.mem_append_left _ hb)) (by
  have := h.nodup
  rw [List.map_append, List.nodup_append] at this
  exact this.1)
/-- The tree at p: its map at g, its queue v; the transactions in blocks of X. -/
structure TrC (X : Nat → Prop) (w : World) (p g : Nat) (v : Value) (K V : List BlkD) : Prop where
  obj : Fs w p [.map (some g), v]
  map : ∃ (n : Nat) (D : DataW Value) (us : List Value), n ≤ 400 ∧ w.ownsMap Try.prog 3 tok g n D ∧ us.length = K.length ∧ MapF D ((K.zip us).map fun x => (x.1.name, kVal x.1 x.2 (TrS.height K x.1.name))) ∧ ∀ x ∈ K.zip us, TxX X w x.2 x.1
  que : ∃ us : List Value, us.length = V.length ∧ RowN (fun k => v.ownBlock = some k) w 54 5 v ((V.zip us).map fun x => bRow x.1 x.2) ∧ ∀ x ∈ V.zip us, TxX X w x.2 x.1
  sep : p ≠ g ∧ ¬ X p ∧ ¬ X g ∧ ∀ k, v.ownBlock = some k → ¬ X k ∧ k ≠ p ∧ k ≠ g
  fit : Fit8 K V
section
variable {X F : Nat → Prop} {w w' : World} {p g : Nat} {v : Value} {K V : List BlkD}
theorem TrC.mod (h : TrC X w p g v K V) (hm : Mod F w w') (hX : ∀ k, X k → ¬ F k) (hp : ¬ F p) (hg : ¬ F g) (hv : ∀ k, v.ownBlock = some k → ¬ F k) : TrC X w' p g v K V := by
  obtain ⟨n, D, us, h1, h2, h3, h4, h5⟩ := h.map
  obtain ⟨vs, k1, k2, k3⟩ := h.que
  exact ⟨h.obj.mod hm hp, ⟨n, D, us, h1, ownsMap_mod h2 hm hg, h3, h4, fun x hx => (h5 x hx).mod hm hX⟩, ⟨vs, k1, k2.mod hm (fun k hk => hv k hk), fun x hx => (k3 x hx).mod hm hX⟩, h.sep, h.fit⟩
theorem TrC.ext (h : TrC X w p g v K V) (he : Ext w w') : TrC X w' p g v K V := h.mod (he.mod fun _ => False) (fun _ _ => id) id id fun _ _ => id
end
/-- The tree at p, all of whose blocks are in G. -/
def TrW (G : Nat → Prop) (w : World) (p : Nat) (K V : List BlkD) : Prop := ∃ (X : Nat → Prop) (g : Nat) (v : Value), TrC X w p g v K V ∧ (∀ k, X k → G k ∧ k < w.heap.size) ∧ G p ∧ G g ∧ ∀ k, v.ownBlock = some k → G k
section
variable {G F : Nat → Prop} {w w' : World} {p g : Nat} {v : Value} {K V : List BlkD}
theorem TrW.mod (h : TrW G w p K V) (hm : Mod F w w') (hG : ∀ k, G k → ¬ F k) : TrW G w' p K V := by
  obtain ⟨X, g, v, h1, h2, h3, h4, h5⟩ := h
  exact ⟨X, g, v, h1.mod hm (fun k hk => hG k (h2 k hk).1) (hG p h3) (hG g h4) (fun k hk => hG k (h5 k hk)), fun k hk => ⟨(h2 k hk).1, Nat.lt_of_lt_of_le (h2 k hk).2 hm.size⟩, h3, h4, h5⟩
theorem TrW.ext (h : TrW G w p K V) (he : Ext w w') : TrW G w' p K V := h.mod (he.mod fun _ => False) fun _ _ => id
theorem TrW.fit (h : TrW G w p K V) : Fit8 K V := by obtain ⟨X, g, v, h1, _⟩ := h; exact h1.fit
end
/-- m[n], and whether it is there. -/
def Look (w : World) (g : Nat) (n : Int) (val : Value) (ok : Bool) : Prop := ∃ (m : Nat) (D : DataW Value), w.ownsMap Try.prog 3 tok g m D ∧ D.atKey (.int .i64 n) (.held kZero) = .held val ∧ Maps.has D (.int .i64 n) = ok
theorem Look.mod {F : Nat → Prop} {w w' : World} {g : Nat} {n : Int} {val : Value} {ok : Bool} (h : Look w g n val ok) (hm : Mod F w w') (hg : ¬ F g) : Look w' g n val ok := by
  obtain ⟨m, D, h1, h2, h3⟩ := h
  exact ⟨m, D, ownsMap_mod h1 hm hg, h2, h3⟩
theorem Look.ext {w w' : World} {g : Nat} {n : Int} {val : Value} {ok : Bool} (h : Look w g n val ok) (he : Ext w w') : Look w' g n val ok := h.mod (he.mod fun _ => False) id
theorem mem_zip_of {α β : Type} : ∀ {l : List α} {us : List β} {a : α}, us.length = l.length → a ∈ l → ∃ u, (a, u) ∈ l.zip us
  | [], _, _, _, h => by cases h
  | x :: l, [], _, he, _ => by simp at he
  | x :: l, u :: us, a, he, h => by
    rcases List.mem_cons.1 h with rfl | h
    · exact ⟨u, List.mem_cons_self ..⟩
    · obtain ⟨u', hu⟩ := mem_zip_of (us := us) (by simpa using he) h
      exact ⟨u', List.mem_cons_of_mem _ hu⟩
section
variable {X : Nat → Prop} {w : World} {p g : Nat} {v : Value} {K V : List BlkD}
theorem TrC.hit (h : TrC X w p g v K V) {n : Int} {d : BlkD} (hg : TrS.get K n = some d) : ∃ u, Look w g n (kVal d u (TrS.height K n)) true ∧ TxX X w u d := by
  obtain ⟨m, D, us, h1, h2, h3, h4, h5⟩ := h.map
  obtain ⟨hd, hn⟩ := TrS.get_some hg
  obtain ⟨u, hu⟩ := mem_zip_of h3 hd
  have hmem : (n, kVal d u (TrS.height K n)) ∈ (K.zip us).map fun x => (x.1.name, kVal x.1 x.2 (TrS.height K x.1.name)) := List.mem_map.2 ⟨_, hu, by rw [hn]⟩
  refine ⟨u, ⟨m, D, h2, h4.hit hmem _, ?_⟩, h5 _ hu⟩
  rw [h4.has, List.any_eq_true]
  exact ⟨_, hmem, by simp⟩
theorem TrC.miss (h : TrC X w p g v K V) {n : Int} (hg : TrS.get K n = none) : Look w g n kZero false := by
  obtain ⟨m, D, us, h1, h2, h3, h4, h5⟩ := h.map
  have hno : ∀ q ∈ (K.zip us).map (fun x => (x.1.name, kVal x.1 x.2 (TrS.height K x.1.name))), q.1 ≠ n := fun q hq => by
    obtain ⟨x, hx, rfl⟩ := List.mem_map.1 hq
    exact TrS.get_none hg _ (List.of_mem_zip hx).1
  refine ⟨m, D, h2, h4.miss hno _, ?_⟩
  rw [h4.has, Bool.eq_false_iff]
  intro ha
  obtain ⟨q, hq, hc⟩ := List.any_eq_true.1 ha
  exact hno q hq (of_decide_eq_true hc)
end
theorem get_has {K : List BlkD} {n : Int} : (TrS.get K n).isSome = TrS.has K n := by
  rw [Bool.eq_iff_iff, TrS.has_iff, TrS.get, List.find?_isSome]; simp
theorem Try.stTree : St Try.prog 84 2 [.map none, .slice none 0 0] := St.of (by kernel_rfl) (by kernel_rfl) rfl
theorem Try.stQue : St Try.prog 82 1 [.slice none 0 0] := St.of (by kernel_rfl) (by kernel_rfl) rfl
theorem Try.stKn : StN Try.prog 95 6 [.int .i64 0, .int .i64 0, .int .i64 0, .int .i64 0, .slice none 0 0, .int .i64 0] := StN.of (by kernel_rfl) (by kernel_rfl) rfl
theorem zeroKn (w : World) : (zeroValue 95).run Try.prog w = .ok kZero w := by
  obtain ⟨i, h1, h2, h3⟩ := Try.stKn.info
  simp [zeroValue, typeInfo, h1, h2, kZero]
section
variable {ops : Array Oper} {rest : List Oper} {o : Oper} {a : Act} {Q : Exit → Act → World → Prop} {w : World}
/-- v, ok := m[n] -/
theorem w_mlook (x y : Operand) {g : Nat} {n : Int} {val : Value} {ok : Bool} (hgd : o.guard = none) (ho : o.op = Op.lookup 80 x y true) (hx : a.eval x = .map (some g)) (hy : a.eval y = .int .i64 n) (h : Look w g n val ok) (hn : -9223372036854775808 ≤ n ∧ n ≤ 9223372036854775807)
    (k : wpList Try.prog ops Q rest (a.put o.dst (.tuple #[val, .bool ok])) w) : wpList Try.prog ops Q (o :: rest) a w := by
  obtain ⟨m, D, h1, h2, rfl⟩ := h
  have hwf : (Lit.int .i64 n).wf = true := by simp [Lit.wf, IntKind.min, IntKind.max, IntKind.signed, IntKind.bits]; omega
  refine wpList_lookup_own_ok w hgd x y _ ho 3 95 (Maps.int_keyed Try.underlying3) Try.underlying80 tok (zeroKn w) (.held kZero) [] rfl g m D hx h1 _ _ hy (Maps.keyOf_int_mk Try.underlying3 hwf) ?_
  intro v ps hv
  rw [h2] at hv
  obtain ⟨rfl, _⟩ : v = val ∧ ps = [] := by simpa [tok] using hv
  exact k
/-- &p.f, p the address of a struct somewhere in a block. -/
theorem w_fieldO {P : Program} {t : TypeId} {n : Nat} {zs : List Value} (E : St P t n zs) (x : Operand) (g j i : Nat) (hgd : o.guard = none) (ho : o.op = .fieldAddr t x i) (hx : a.eval x = .pointer (some ⟨g, j, none⟩)) (hi : i < n)
    (k : wpList P ops Q rest (a.put o.dst (.pointer (some ⟨g, j + i, none⟩))) w) : wpList P ops Q (o :: rest) a w :=
  w_pfield E x i hgd ho hx hi (by rw [addr_add_off]; exact k)
/-- len(m) -/
theorem w_mlen (x : Operand) {g m : Nat} {D : DataW Value} {r : Nat} (hgd : o.guard = none) (ho : o.op = .call { callee := .builtin .len, args := #[x], argTypes := #[80] }) (hx : a.eval x = .map (some g)) (h : w.ownsMap Try.prog 3 tok g m D) (hr : Maps.size D = r)
    (k : wpList Try.prog ops Q rest (a.put o.dst (.int .i64 (r : Nat))) w) : wpList Try.prog ops Q (o :: rest) a w := by
  subst hr
  refine wpList_runs hgd ?_ k
  unfold Runs execOp
  simp [ho, resolve, invoke, builtin, hx, h.len Try.underlying80 o.type]
end
end Go.Proofs.Ytdacclcaopmalaa
