/- Votes counted, as plain mathematics: over a table of first votes (who voted what in which kind and view). No program. · Plain mathematics of view: whose turn it is, how long one waits, what is left behind a tick. No condition. · One node's part in deciding, index by index, as plain mathematics: what it does with a message, with a tick, with what a journal tells. No program. · What a core says can be: of an index and a view that it has come to; and how much it can do behind one thing. No program. · A message, a tick: what a core says of itself can be. No program. · The contracts of the document's own answers: neaptideref01.Num and ReadNum. · Lists of numbers as bytes. · The contracts of wire.Nums and neaptideref01.Nums: numbers as bytes, one behind the other. · The contracts of wire.ReadNums and neaptideref01.ReadNums: so many numbers of any bytes. · Records of a journal as bytes, as plain mathematics: what is written is read, what is cut off isn't there. No program. · Records of a journal, as the program reads them, are the document's. No program. · Transactions and lists of them as bytes, as plain mathematics: what is written is read, and nothing else is. No program. · From a law's contract (it returns true, and nothing that was there has turned) to its row, for any parameters. · From a law's contract to its row's second form: where what comes in is of small bulk. · Slices of records among a law's parameters: what they read as. · What a parameter of type []byte reads as. -/
import Derived.Test.YtdoeoncmhaihbaaGreatSTK
import Derived.Test.YtdoeoncmhaihbaaGreatFA
import Derived.Test.YtdoeoncmhaihbaaGreatPk03
import Derived.Test.YtdoeoncmhaihbaaGreatRows
import Derived.ProofKit
import Derived.SizedLaws
import Derived.Carry
import Derived.JoinedCond
import Derived.Deep.CondSized
import Derived.Test.YtdoeoncmhaihbaaGreatFB
import Derived.Deep.Slices
namespace Go.Proofs.YtdoeoncmhaihbaaGreat
set_option maxRecDepth 100000
structure VtD where
 k:Int
 w:Int
 f:Int
 x:Int
def Tab:Type:=Int→Int→Nat→Option Int
namespace Tab
variable (g:Tab)
def has (k w x:Int) (i:Nat):Bool:=decide (g k w i = some x)
def any (k w:Int) (i:Nat):Bool:=(g k w i).isSome
def who (n:Nat) (k w x:Int):List Int:=picks (g.has k w x) n
def all (n:Nat) (k w:Int):List Int:=picks (g.any k w) n
def Mst (t:List Int) (k w x:Int):Prop:=most t (g.who t.length k w x) = true
def from' (w:Int) (i:Nat):Bool:=decide (∃ j:Nat,j≤1000∧w≤(j:Int)∧(g 4 j i≠none∨g 5 j i≠none))
def Ahd (t:List Int) (w:Int):Prop:=some3 t (picks (g.from' w) t.length) = true
variable {g}
theorem has_iff {k w x:Int} {i:Nat}:g.has k w x i = true ↔ g k w i = some x:=by simp [has]
theorem Mst.one {t:List Int} (ht:StOk t) {k w x:Int} (h:g.Mst t k w x):∃ i,i < t.length∧g k w i = some x:=by
 by_cases hc:∃ i,i < t.length∧g k w i = some x
 ·exact hc
 ·exfalso
  have hz:sumS t (g.who t.length k w x) = 0:=by
   unfold who
   rw [sum_picks]
   have:ws t (g.has k w x) t.length = ws t (fun _=>false) t.length:=ws_congr _ fun i hi=>by
    cases hb:g.has k w x i with
    | false=>rfl
    | true=>exact absurd ⟨i,hi,has_iff.1 hb⟩ hc
   rw [this]
   have:∀ n,ws t (fun _=>false) n = 0:=fun n=>by
    induction n with
    | zero=>rfl
    | succ n ih=>rw [ws,ih];simp
   exact this _
  have h1:=tot_pos ht
  unfold Mst most at h
  rw [hz] at h
  simp only [decide_eq_true_eq] at h
  omega
theorem Mst.uniq {t:List Int} (ht:StOk t) {k w x y:Int} (h:g.Mst t k w x) (h':g.Mst t k w y):x = y:=by
 have hm:=(two_meet ht _ _ h h').1
 have h1:=tot_pos ht
 by_cases e:x = y
 ·exact e
 ·exfalso
  have hz:sumS t (picks (fun i=>inn (g.who t.length k w x) i && inn (g.who t.length k w y) i) t.length) = 0:=by
   rw [sum_picks]
   have:ws t (fun i=>inn (g.who t.length k w x) i && inn (g.who t.length k w y) i) t.length = ws t (fun _=>false) t.length:=ws_congr _ fun i hi=>by
    simp only [who,inn_picks _ _ hi]
    cases h1:g.has k w x i with
    | false=>rfl
    | true =>
     cases h2:g.has k w y i with
     | false=>rfl
     | true =>
      have:=(has_iff.1 h1).symm.trans (has_iff.1 h2)
      injection this with this
      exact absurd this e
   rw [this]
   have:∀ n,ws t (fun _=>false) n = 0:=fun n=>by
    induction n with
    | zero=>rfl
    | succ n ih=>rw [ws,ih];simp
   exact this _
  unfold some3 at hm
  rw [hz] at hm
  simp only [decide_eq_true_eq] at hm
  omega
def Le (g g':Tab):Prop := ∀ k w i x,g k w i = some x→g' k w i = some x
theorem most_mono {t:List Int} (ht:StOk t) {p q:Nat→Bool} (h:∀ i,i < t.length→p i = true→q i = true) (hm:most t (picks p t.length) = true):most t (picks q t.length) = true:=by
 have:=ws_mono ht t.length h
 unfold most at hm ⊢
 simp only [sum_picks,decide_eq_true_eq] at hm ⊢
 omega
theorem some_mono {t:List Int} (ht:StOk t) {p q:Nat→Bool} (h:∀ i,i < t.length→p i = true→q i = true) (hm:some3 t (picks p t.length) = true):some3 t (picks q t.length) = true:=by
 have:=ws_mono ht t.length h
 unfold some3 at hm ⊢
 simp only [sum_picks,decide_eq_true_eq] at hm ⊢
 omega
theorem Le.mst {g g':Tab} {t:List Int} (ht:StOk t) (h:Le g g') {k w x:Int} (hm:g.Mst t k w x):g'.Mst t k w x :=
 most_mono ht (fun _ _ hi=>has_iff.2 (h _ _ _ _ (has_iff.1 hi))) hm
theorem Le.none {g g':Tab} (h:Le g g') {k w:Int} {i:Nat} (hn:g k w i≠none):g' k w i≠none:=by
 cases hg:g k w i with
 | none=>exact absurd hg hn
 | some x=>rw [h _ _ _ _ hg];simp
theorem Le.ahd {g g':Tab} {t:List Int} (ht:StOk t) (h:Le g g') {w:Int} (hm:g.Ahd t w):g'.Ahd t w :=
 some_mono ht (fun i _ hi=>by
  obtain ⟨j,h1,h2,h3⟩:=of_decide_eq_true hi
  exact decide_eq_true ⟨j,h1,h2,h3.imp h.none h.none⟩) hm
def mostOf (g:Tab) (t:List Int) (k w:Int):Option Int:=((List.range t.length).findSome? fun i=>match g k w i with
 | some x=>if most t (g.who t.length k w x) then some x else Option.none
 | Option.none=>Option.none)
theorem mostOf_iff {t:List Int} (ht:StOk t) {k w x:Int}:g.mostOf t k w = some x ↔ g.Mst t k w x:=by
 constructor
 ·intro h
  obtain ⟨i,_,hi⟩:=List.exists_of_findSome?_eq_some h
  cases hg:g k w i with
  | none=>rw [hg] at hi;cases hi
  | some y =>
   rw [hg] at hi
   simp only at hi
   split at hi
   ·rename_i hm;injection hi with hi;subst hi;exact hm
   ·cases hi
 ·intro h
  obtain ⟨i,hi,hg⟩:=h.one ht
  cases hr:g.mostOf t k w with
  | none =>
   unfold mostOf at hr
   rw [List.findSome?_eq_none_iff] at hr
   have:=hr i (List.mem_range.2 hi)
   rw [hg] at this
   simp only at this
   rw [if_pos (show most t (g.who t.length k w x) = true from h)] at this
   cases this
  | some y =>
   obtain ⟨j,_,hj⟩:=List.exists_of_findSome?_eq_some hr
   cases hgj:g k w j with
   | none=>rw [hgj] at hj;cases hj
   | some z =>
    rw [hgj] at hj
    simp only at hj
    split at hj
    ·rename_i hm
     injection hj with hj
     subst hj
     exact congrArg some (Mst.uniq ht hm h)
    ·cases hj
def commAt (g:Tab) (t:List Int) (j:Nat):Option Int:=match g.mostOf t 5 j with
 | some x=>if x = -1 then Option.none else some x
 | Option.none=>Option.none
theorem commAt_iff {t:List Int} (ht:StOk t) {j:Nat} {x:Int}:g.commAt t j = some x ↔ g.Mst t 5 j x∧x ≠ -1:=by
 rw [← mostOf_iff ht]
 unfold commAt
 cases h:g.mostOf t 5 j with
 | none=>simp
 | some y =>
  simp only [Option.some.injEq]
  split
  ·rename_i e;subst e;exact ⟨(fun h=>nomatch h),fun h=>absurd h.1.symm h.2⟩
  ·rename_i e;rw [Option.some.injEq];exact ⟨fun h=>⟨h,(by rw [← h];exact e)⟩,fun h=>h.1⟩
def commOf (g:Tab) (t:List Int):Option Int:=(List.range 1001).findSome? (g.commAt t)
theorem commOf_some {t:List Int} {x:Int} (h:g.commOf t = some x):∃ j:Nat,j≤1000∧g.commAt t j = some x:=by
 obtain ⟨j,hj,hx⟩:=List.exists_of_findSome?_eq_some h
 exact ⟨j,by have:=List.mem_range.1 hj;omega,hx⟩
theorem commOf_none {t:List Int} (h:g.commOf t = Option.none):∀ j:Nat,j≤1000→g.commAt t j = Option.none:=fun j hj=>by
 unfold commOf at h
 rw [List.findSome?_eq_none_iff] at h
 exact h j (List.mem_range.2 (by omega))
theorem findSome_first {α:Type} (f:Nat→Option α):∀ (n j:Nat) {x : α},j < n→f j = some x→(∀ i,i < j→f i = Option.none)→(List.range n).findSome? f = some x
 | 0,j,_,h,_,_=>by omega
 | n + 1,j,x,h,hj,hl=>by
  rw [List.range_succ,List.findSome?_append]
  by_cases hjn:j < n
  ·rw [findSome_first f n j hjn hj hl];rfl
  ·obtain rfl:j = n:=by omega
   have:(List.range j).findSome? f = Option.none:=by
    rw [List.findSome?_eq_none_iff]
    exact fun i hi=>hl i (List.mem_range.1 hi)
   rw [this];simp [hj]
theorem commOf_first {t:List Int} {j:Nat} {x:Int} (hj:j≤1000) (h:g.commAt t j = some x) (hl:∀ i,i < j→g.commAt t i = Option.none):g.commOf t = some x:=findSome_first _ _ j (by omega) h hl
theorem Le.comm {g g':Tab} {t:List Int} (ht:StOk t) (h:Le g g') (hc:g.commOf t≠Option.none):g'.commOf t≠Option.none:=by
 cases hx:g.commOf t with
 | none=>exact absurd hx hc
 | some x =>
  obtain ⟨j,hj,hq⟩:=commOf_some hx
  have hm:=(commAt_iff ht).1 hq
  intro hn
  have:=commOf_none hn j hj
  rw [(commAt_iff ht).2 ⟨h.mst ht hm.1,hm.2⟩] at this
  cases this
def aheadTo (g:Tab) (t:List Int) (w:Int):Nat→Int
 | 0=>w
 | n + 1=>if w < (n:Int)∧some3 t (picks (g.from' n) t.length) = true then (n:Int) else aheadTo g t w n
def aheadOf (g:Tab) (t:List Int) (w:Int):Int:=g.aheadTo t w 1001
theorem aheadTo_spec {t:List Int} {w:Int}:∀ n:Nat,(g.aheadTo t w n = w∧∀ j:Nat,j < n→w < (j:Int)→¬ g.Ahd t j)∨(∃ m:Nat,m < n∧g.aheadTo t w n = (m:Int)∧w < (m:Int)∧g.Ahd t m∧∀ j:Nat,j < n→m < j→¬ g.Ahd t j)
 | 0=>.inl ⟨rfl,fun j h=>by omega⟩
 | n + 1=>by
  unfold aheadTo
  split
  ·rename_i h
   exact .inr ⟨n,by omega,rfl,h.1,h.2,fun j h1 h2=>by omega⟩
  ·rename_i h
   rcases aheadTo_spec n with ⟨h1,h2⟩ | ⟨m,h1,h2,h3,h4,h5⟩
   ·refine .inl ⟨h1,fun j hj hw ha => ?_⟩
    by_cases e:j = n
    ·subst e;exact h ⟨hw,ha⟩
    ·exact h2 j (by omega) hw ha
   ·refine .inr ⟨m,by omega,h2,h3,h4,fun j hj hm ha => ?_⟩
    by_cases e:j = n
    ·subst e;exact h ⟨by omega,ha⟩
    ·exact h5 j (by omega) hm ha
theorem aheadOf_is {t:List Int} {w:Int} {m:Nat} (hm:m≤1000) (hw:w < (m:Int)) (ha:g.Ahd t m) (hl:∀ j:Nat,j≤1000→m < j→¬ g.Ahd t j):g.aheadOf t w = (m:Int):=by
 rcases aheadTo_spec (g:=g) (t:=t) (w:=w) 1001 with ⟨_,h2⟩ | ⟨c,h1,h2,_,h4,h5⟩
 ·exact absurd ha (h2 m (by omega) hw)
 ·have e:c = m:=by
   rcases Nat.lt_trichotomy c m with h | h | h
   ·exact absurd ha (h5 m (by omega) h)
   ·exact h
   ·exact absurd h4 (hl c (by omega) h)
  unfold aheadOf;rw [h2,e]
theorem aheadOf_self {t:List Int} {w:Int} (hl:∀ j:Nat,j≤1000→w < (j:Int)→¬ g.Ahd t j):g.aheadOf t w = w:=by
 rcases aheadTo_spec (g:=g) (t:=t) (w:=w) 1001 with ⟨h1,_⟩ | ⟨c,h1,_,h3,h4,_⟩
 ·exact h1
 ·exact absurd h4 (hl c (by omega) h3)
theorem Le.ahead {g g':Tab} {t:List Int} (ht:StOk t) (h:Le g g') (w:Int):g.aheadOf t w≤g'.aheadOf t w:=by
 have hw':w≤g'.aheadOf t w:=by
  rcases aheadTo_spec (g:=g') (t:=t) (w:=w) 1001 with ⟨h1,_⟩ | ⟨c,_,h2,h3,_⟩
  ·unfold aheadOf;omega
  ·unfold aheadOf;omega
 rcases aheadTo_spec (g:=g) (t:=t) (w:=w) 1001 with ⟨h1,_⟩ | ⟨c,h1,h2,h3,h4,_⟩
 ·unfold aheadOf at *;omega
 ·rcases aheadTo_spec (g:=g') (t:=t) (w:=w) 1001 with ⟨_,k2⟩ | ⟨d,k1,k2,_,_,k5⟩
  ·exact absurd (h.ahd ht h4) (k2 c h1 h3)
  ·have:¬ d < c:=fun hd=>k5 c h1 hd (h.ahd ht h4)
   unfold aheadOf;omega
end Tab
def VtOk (n:Nat) (v:VtD):Prop:=(v.k = 4∨v.k = 5)∧(0≤v.w∧v.w≤1000)∧(0≤v.f∧v.f < (n:Int)) ∧ -1≤v.x
instance (n:Nat) (v:VtD):Decidable (VtOk n v):=by unfold VtOk;infer_instance
end Go.Proofs.YtdoeoncmhaihbaaGreat
namespace Go.Proofs.YtdoeoncmhaihbaaGreat
set_option maxRecDepth 100000
open Go.RowKit
def ldr (i v n:Int):Int:=if 0≤i∧i≤1000∧0≤v∧v≤1000∧1≤n∧n≤7 then (i + v) % n else 0
def grw (b:Int) (k:Nat):Int:=b * 2 ^ k
def pat (v b m:Int):Int:=if 1≤m∧m≤1000 then (if 0≤v∧1≤b∧b≤100 then min (grw b v.toNat) m else m) else 1000
def tck (x:Int):Int:=max x 1 - 1
theorem grw_zero (b:Int):grw b 0 = b:=by simp [grw]
theorem grw_succ (b:Int) (k:Nat):grw b (k + 1) = grw b k * 2:=by unfold grw;rw [Int.pow_succ,Int.mul_assoc]
theorem grw_mono {b:Int} (hb:1≤b) (k:Nat):∀ j,grw b k≤grw b (k + j)
 | 0=>Int.le_refl _
 | j + 1=>by
  have h:=grw_mono hb k j
  have h0:0≤grw b (k + j):=by
   unfold grw
   exact Int.mul_nonneg (by omega) (Int.le_of_lt (Int.pow_pos (by decide)))
  rw [← Nat.add_assoc,grw_succ];omega
theorem grw_le {b:Int} (hb:1≤b) {k n:Nat} (h:k≤n):grw b k≤grw b n:=by
 have:=grw_mono hb k (n - k)
 rwa [show k + (n - k) = n by omega] at this
theorem grw_pos {b:Int} (hb:1≤b) (k:Nat):1≤grw b k:=by
 have:=grw_le hb (Nat.zero_le k)
 rw [grw_zero] at this;omega
theorem pat_bad {v b m:Int} (h:¬ (1≤m∧m≤1000)):pat v b m = 1000:=by unfold pat;rw [if_neg h]
theorem pat_cap {v b m:Int} (h:1≤m∧m≤1000) (h2:¬ (0≤v∧1≤b∧b≤100)):pat v b m = m:=by unfold pat;rw [if_pos h,if_neg h2]
theorem pat_good {v b m:Int} (h:1≤m∧m≤1000) (h2:0≤v∧1≤b∧b≤100):pat v b m = min (grw b v.toNat) m:=by unfold pat;rw [if_pos h,if_pos h2]
theorem pat_end {v b m y:Int} {k:Nat} (h:1≤m∧m≤1000) (h2:0≤v∧1≤b∧b≤100) (hk:k≤v.toNat) (hy:y = grw b k) (he:k = v.toNat∨m≤y):pat v b m = min y m:=by
 rw [pat_good h h2]
 rcases he with rfl | he
 ·rw [hy]
 ·have:=grw_le h2.2.1 hk
  omega
theorem pat_range (v b m:Int):1≤pat v b m∧pat v b m≤1000:=by
 by_cases h:1≤m∧m≤1000
 ·by_cases h2:0≤v∧1≤b∧b≤100
  ·rw [pat_good h h2]
   have:=grw_pos h2.2.1 v.toNat
   omega
  ·rw [pat_cap h h2];omega
 ·rw [pat_bad h];omega
theorem ldr_good {i v n:Int} (h:0≤i∧i≤1000∧0≤v∧v≤1000∧1≤n∧n≤7):ldr i v n = (i + v) % n:=by unfold ldr;rw [if_pos h]
theorem ldr_bad {i v n:Int} (h:¬ (0≤i∧i≤1000∧0≤v∧v≤1000∧1≤n∧n≤7)):ldr i v n = 0:=by unfold ldr;rw [if_neg h]
end Go.Proofs.YtdoeoncmhaihbaaGreat
namespace Go.Proofs.YtdoeoncmhaihbaaGreat
set_option maxRecDepth 100000
structure MsV where
 kd:Int
 fm:Int
 ix:Int
 vw:Int
 vl:Int
 pr:Int
theorem MsV.eq_iff {a b:MsV}:a = b ↔ [a.kd,a.fm,a.ix,a.vw,a.vl,a.pr] = [b.kd,b.fm,b.ix,b.vw,b.vl,b.pr]:=by
 constructor
 ·intro h;rw [h]
 ·intro h
  obtain ⟨k,f,i,v,x,p⟩:=a
  obtain ⟨k',f',i',v',x',p'⟩:=b
  simp only [List.cons.injEq,and_true] at h
  obtain ⟨rfl,rfl,rfl,rfl,rfl,rfl⟩:=h
  rfl
instance:DecidableEq MsV:=fun _ _=>decidable_of_iff _ MsV.eq_iff.symm
structure AcV where
 to:Int
 m:MsV
theorem AcV.eq_iff {a b:AcV}:a = b ↔ a.to = b.to∧a.m = b.m:=by
 constructor
 ·intro h;rw [h];exact ⟨rfl,rfl⟩
 ·obtain ⟨x,y⟩:=a
  obtain ⟨x',y'⟩:=b
  rintro ⟨h1,h2⟩
  simp only at h1 h2
  rw [h1,h2]
instance:DecidableEq AcV:=fun _ _=>decidable_of_iff _ AcV.eq_iff.symm
structure RcV where
 kd:Int
 ix:Int
 vw:Int
 vl:Int
def vok (n:Nat) (T:Tab) (k w:Int) (i:Nat) (x:Int):Bool:=decide (((k = 4∨k = 5)∧(0≤w∧w≤1000) ∧ -1≤x)∧i < n∧T k w i = none)
def vput (T:Tab) (k w:Int) (i:Nat) (x:Int):Tab:=fun k' w' i'=>if k' = k∧w' = w∧i' = i then some x else T k' w' i'
def vadd (n:Nat) (T:Tab) (k w:Int) (i:Nat) (x:Int):Tab:=if vok n T k w i x = true then vput T k w i x else T
def T0:Tab:=fun _ _ _=>none
theorem vok_iff {n:Nat} {T:Tab} {k w:Int} {i:Nat} {x:Int}:vok n T k w i x = true ↔ ((k = 4∨k = 5)∧(0≤w∧w≤1000) ∧ -1≤x)∧i < n∧T k w i = none:=by unfold vok;exact decide_eq_true_iff
theorem vadd_get {n:Nat} {T:Tab} {k w:Int} {i:Nat} {x:Int} (k' w':Int) (i':Nat):vadd n T k w i x k' w' i' = if vok n T k w i x = true∧k' = k∧w' = w∧i' = i then some x else T k' w' i':=by
 unfold vadd
 by_cases h:vok n T k w i x = true
 ·rw [if_pos h];unfold vput;simp only [h,true_and]
 ·rw [if_neg h,if_neg fun q=>h q.1]
theorem vadd_no {n:Nat} {T:Tab} {k w:Int} {i:Nat} {x:Int} (h:vok n T k w i x = false):vadd n T k w i x = T:=by unfold vadd;rw [if_neg (by rw [h];simp)]
theorem vadd_le {n:Nat} {T:Tab} {k w:Int} {i:Nat} {x:Int}:Tab.Le T (vadd n T k w i x):=by
 intro k' w' i' x' h
 rw [vadd_get]
 split
 ·rename_i hc
  have:=(vok_iff.1 hc.1).2.2
  rw [hc.2.1,hc.2.2.1,hc.2.2.2,this] at h
  cases h
 ·exact h
structure CoD where
 me:Nat
 t:List Int
 base:Int
 most:Int
 dec:List Int
 view:Int
 step:Int
 left:Int
 tip:Int
 T:Tab
 prop:Int→Option (Int × Int)
 said:Nat→Option Int
 lv:Int
 lw:Int
 vv:Int
 vw:Int
 out:List AcV
namespace CoD
def idx (c:CoD):Int:=(c.dec.length:Int)
def new (me:Nat) (t:List Int) (base most:Int):CoD:=⟨me,t,base,most, [],0,0,0,0,T0,fun _=>none,fun _=>none,0, -1,0, -1, []⟩
def send (c:CoD) (m:MsV):CoD:={ c with out:=c.out ++ [⟨-1,m⟩] }
def vote (c:CoD) (k x:Int):MsV:=⟨k,c.me,c.idx,c.view,x,0⟩
def cast (c:CoD) (k x:Int):CoD :=
 if vok c.t.length c.T k c.view c.me x = true then { c with T:=vadd c.t.length c.T k c.view c.me x,out:=c.out ++ [⟨-1,c.vote k x⟩] } else c
def to (c:CoD) (s:Int):CoD:={ c with step:=s,left:=pat c.view c.base c.most }
def leader (c:CoD) (w:Int):Int:=ldr c.idx w c.t.length
def prop1 (c:CoD):Int × Int:=if 0≤c.vw then (c.vv,c.vw) else (c.tip, -1)
def offer (c:CoD) (w:Int) (p:Int × Int):MsV:=⟨3,c.me,c.idx,w,p.1,p.2⟩
def setProp (c:CoD) (w:Int) (p:Int × Int):CoD:={ c with prop:=fun u=>if u = w then some p else c.prop u }
def enter (c:CoD) (w:Int):CoD :=
 let d:=({ c with view:=w }:CoD).to 1
 if d.prop w = none∧d.leader w = d.me then (d.setProp w d.prop1).send (d.offer w d.prop1) else d
def saidSet (said:Nat→Option Int) (n:Nat) (v:Int):List Int:=picks (fun j=>decide (said j = some v)) n
def saidAll (t:List Int) (said:Nat→Option Int):List Int:=(List.range t.length).filterMap fun i=>match said i with
 | some v=>if some3 t (saidSet said t.length v) = true then some v else none
 | none=>none
def saidOf (t:List Int) (said:Nat→Option Int):Option Int:=(saidAll t said).min?
def agreed (c:CoD):Option Int:=(c.T.commOf c.t).or (saidOf c.t c.said)
def rest (c:CoD):CoD:={ c with view:=0,step:=0,left:=0,T:=T0,prop:=fun _=>none,said:=fun _=>none,lv:=0,lw := -1,vv:=0,vw := -1 }
def conclude (c:CoD) (v:Int):CoD:=({ c with dec:=c.dec ++ [v],out:=c.out ++ [⟨-1,⟨6,c.me,c.idx,0,v,0⟩⟩] }:CoD).rest
def knows (kn:List Int) (x:Int):Bool:=decide (x = 0∨x∈kn)
def free (c:CoD) (x q:Int):Bool:=decide (c.lv = x∨c.lw≤q)
def prep (c:CoD) (x q:Int):CoD:=(c.cast 4 (if c.free x q = true then x else -1)).to 2
def lock (c:CoD) (x:Int):CoD:=if x = -1 then c else { c with lv:=x,lw:=c.view,vv:=x,vw:=c.view }
def comm (c:CoD) (x:Int):CoD:=((c.lock x).cast 5 x).to 3
def valid (c:CoD) (x:Int):CoD:={ c with vv:=x,vw:=c.view }
def step3 (c:CoD) (kn:List Int):Option CoD:=match c.prop c.view with
 | none=>none
 | some p=>if knows kn p.1 = true∧(p.2 = -1∨c.T.mostOf c.t 4 p.2 = some p.1) then some (c.prep p.1 p.2) else none
def step45 (c:CoD) (kn:List Int):Option CoD:=match c.T.mostOf c.t 4 c.view with
 | none=>none
 | some x=>if c.step = 2 then (if x = -1∨knows kn x = true then some (c.comm x) else none)
  else if x ≠ -1∧knows kn x = true∧c.vw < c.view then some (c.valid x) else none
def step1 (c:CoD) (kn:List Int):Option CoD :=
 if 1000 < c.dec.length then none else
 match c.agreed with
 | some v=>some (c.conclude v)
 | none=>if c.step = 0 then none else
  if c.view < c.T.aheadOf c.t c.view then some (c.enter (c.T.aheadOf c.t c.view)) else
  if c.step = 1 then c.step3 kn else c.step45 kn
def settleN:Nat→CoD→List Int→CoD
 | 0,c,_=>c
 | n + 1,c,kn=>match c.step1 kn with
  | none=>c
  | some d=>settleN n d kn
def muV (n:Nat) (view step vw:Int):Nat:=(1001 - n) * 10000 + (1000 - view).toNat * 8 + (3 - step).toNat * 2 + if vw < view then 1 else 0
def mu (c:CoD):Nat:=muV c.dec.length c.view c.step c.vw
def settle (c:CoD) (kn:List Int):CoD:=settleN (c.mu + 1) c kn
def flush (c:CoD):CoD:={ c with out:=[] }
def hear (c:CoD) (m:MsV):CoD :=
 if m.kd = 3 then (if c.leader m.vw = m.fm∧c.prop m.vw = none then c.setProp m.vw (m.vl,m.pr) else c)
 else if m.kd = 6 then (if c.said m.fm.toNat = none then { c with said:=fun j=>if j = m.fm.toNat then some m.vl else c.said j } else c)
 else { c with T:=vadd c.t.length c.T m.kd m.vw m.fm.toNat m.vl }
def handle (c:CoD) (m:MsV) (kn:List Int):CoD :=
 if m.kd < 3∨(c.t.length:Int)≤m.fm∨c.idx < m.ix then c
 else if m.ix < c.idx then (if m.kd = 6 then c else { c with out:=c.out ++ [⟨m.fm,⟨6,c.me,m.ix,0,c.dec.getD m.ix.toNat 0,0⟩⟩] })
 else (c.hear m).settle kn
def tock (c:CoD):CoD :=
 if c.step = 0 then c.enter 0
 else
  let d:CoD:={ c with left:=tck c.left }
  if d.left = 0 then
   (if d.step = 1 then (d.cast 4 (-1)).to 2
   else if d.step = 2 then (d.cast 5 (-1)).to 3
   else if d.view < 1000 then d.enter (d.view + 1) else d.to 3)
  else d
def again (c:CoD):List MsV :=
 (match c.prop c.view with
  | some p=>if c.leader c.view = c.me then [c.offer c.view p] else []
  | none => []) ++
 (match c.T 4 c.view c.me with
  | some x => [c.vote 4 x]
  | none => []) ++
 (match c.T 5 c.view c.me with
  | some x => [c.vote 5 x]
  | none => [])
def resend (c:CoD):CoD:=if c.step = 0 then c else { c with out:=c.out ++ (c.again.filter fun m => !(c.out.any fun a=>decide (a.m = m))).map fun m=>⟨-1,m⟩ }
def tick (c:CoD) (kn:List Int) (tip:Int):CoD :=
 if 1000 < c.dec.length then c else ((({ c with tip:=tip }:CoD).tock).settle kn).resend
end CoD
def decOf (d:List Int) (J:List RcV):List Int:=J.foldl (fun d r=>if r.kd = 6∧r.ix = (d.length:Int) then d ++ [r.vl] else d) d
def votV (x:Int) (J:List RcV):List RcV:=J.filter fun r=>decide ((r.kd = 4∨r.kd = 5)∧r.ix = x)
def tabV (n me:Nat) (V:List RcV):Tab:=V.foldl (fun T r=>vadd n T r.kd r.vw me r.vl) T0
def viewV (V:List RcV):Int:=V.foldl (fun m r=>max m r.vw) 0
def lockV (V:List RcV):Int × Int:=V.foldl (fun p r=>if r.kd = 5∧r.vl ≠ -1∧p.2 < r.vw then (r.vl,r.vw) else p) (0, -1)
def stepV (V:List RcV):Int:=if V = [] then 0 else if V.any (fun r=>decide (r.kd = 5∧r.vw = viewV V)) = true then 3 else 2
def CoD.restore (c:CoD) (J:List RcV):CoD :=
 let d:=decOf c.dec J
 let V:=votV (d.length:Int) J
 { c with dec:=d,T:=tabV c.t.length c.me V,view:=viewV V,step:=stepV V,lv:=(lockV V).1,lw:=(lockV V).2,vv:=(lockV V).1,vw:=(lockV V).2,left:=if V = [] then c.left else pat (viewV V) c.base c.most }
def recV (me:Nat) (a:AcV):Option RcV:=if a.to = -1∧a.m.fm = (me:Int)∧4≤a.m.kd then some ⟨a.m.kd,a.m.ix,a.m.vw,a.m.vl⟩ else none
def jour (me:Nat) (L:List AcV):List RcV:=L.filterMap (recV me)
structure Aux (N:Int→Prop) (c:CoD):Prop where
 st:StOk c.t
 lt:c.me < c.t.length
 tab:∀ k w i x,c.T k w i = some x→(k = 4∨k = 5)∧(0≤w∧w≤1000)∧i < c.t.length∧(x = -1∨N x)
 rs:0≤c.step∧c.step≤3
 rv:0≤c.view∧c.view≤1000
 dl:c.dec.length≤1001
 di:c.step≠0→c.dec.length≤1000
 pr:∀ w p,c.prop w = some p→N p.1 ∧ -1≤p.2∧p.2 < w
 sd:∀ j v,c.said j = some v→N v
 vv:N c.vv
 tp:N c.tip
 dc:∀ x∈c.dec,N x
 vw : -1≤c.vw∧c.vw≤c.view
 v0:c.step = 0→c.vw = -1∧c.view = 0
def MsV.Ok (N:Int→Prop) (m:MsV):Prop:=(0≤m.ix∧m.ix≤1000)∧((m.kd = 3∧N m.vl∧(0≤m.vw∧m.vw≤1000) ∧ -1≤m.pr∧m.pr < m.vw)∨((m.kd = 4∨m.kd = 5)∧(m.vl = -1∨N m.vl)∧(0≤m.vw∧m.vw≤1000)∧m.pr = 0)∨(m.kd = 6∧N m.vl∧m.vw = 0∧m.pr = 0))
def AcOk (N:Int→Prop) (c:CoD) (i0:Int) (a:AcV):Prop:=a.m.Ok N∧a.m.fm = (c.me:Int)∧(-1≤a.to∧a.to < c.t.length)∧a.m.ix≤c.idx∧(a.to = -1→i0≤a.m.ix)∧(a.m.ix = c.idx→a.m.kd≠6→a.m.vw≤c.view)
def Spk (N:Int→Prop) (i0:Int) (c:CoD):Prop:=Aux N c∧i0≤c.idx∧∀ a∈c.out,AcOk N c i0 a
section
variable {N:Int→Prop} {i0:Int} {c:CoD}
theorem Aux.new {me:Nat} {t:List Int} {base most:Int} (ht:StOk t) (hm:me < t.length) (h0:N 0):Aux N (CoD.new me t base most):=by
 unfold CoD.new
 exact ⟨ht,hm,fun k w i x h=>(by cases h),(by simp),(by simp),(by simp),(by simp),fun w p h=>(by cases h),fun j v h=>(by cases h),h0,h0,fun x h=>(by cases h),(by simp),fun _=>⟨rfl,rfl⟩⟩
theorem spk_send (h:Spk N i0 c) {m:MsV} (hm:m.Ok N) (hf:m.fm = (c.me:Int)) (hi:m.ix = c.idx) (hv:m.kd≠6→m.vw≤c.view):Spk N i0 (c.send m):=by
 obtain ⟨h1,h2,h3⟩:=h
 refine ⟨⟨h1.st,h1.lt,h1.tab,h1.rs,h1.rv,h1.dl,h1.di,h1.pr,h1.sd,h1.vv,h1.tp,h1.dc,h1.vw,h1.v0⟩,h2,fun a ha => ?_⟩
 rcases List.mem_append.1 ha with ha | ha
 ·exact h3 a ha
 ·rw [List.mem_singleton] at ha
  subst ha
  exact ⟨hm,hf,⟨by simp,by simp only;omega⟩,by simp only [hi];exact Int.le_refl _,fun _=>by simp only [hi];exact h2,fun _ hk=>hv hk⟩
theorem spk_view (h:Spk N i0 c) {w l:Int} (hd:c.dec.length≤1000) (hw:0≤w∧w≤1000) (hv:c.view≤w):Spk N i0 { c with view:=w,step:=1,left:=l }:=by
 obtain ⟨h1,h2,h3⟩:=h
 refine ⟨⟨h1.st,h1.lt,h1.tab,(show (0:Int)≤1∧(1:Int)≤3 by decide),hw,h1.dl,fun _=>hd,h1.pr,h1.sd,h1.vv,h1.tp,h1.dc,⟨h1.vw.1,Int.le_trans h1.vw.2 hv⟩,fun q=>(by cases q)⟩,h2,fun a ha => ?_⟩
 obtain ⟨a1,a2,a3,a4,a5,a6⟩:=h3 a ha
 exact ⟨a1,a2,a3,a4,a5,fun e k=>Int.le_trans (a6 e k) hv⟩
theorem spk_setProp (h:Spk N i0 c) {w:Int} {p:Int × Int} (hp:N p.1 ∧ -1≤p.2∧p.2 < w):Spk N i0 (c.setProp w p):=by
 obtain ⟨h1,h2,h3⟩:=h
 refine ⟨⟨h1.st,h1.lt,h1.tab,h1.rs,h1.rv,h1.dl,h1.di,fun u q hq => ?_,h1.sd,h1.vv,h1.tp,h1.dc,h1.vw,h1.v0⟩,h2,h3⟩
 unfold CoD.setProp at hq
 simp only at hq
 split at hq
 ·rename_i e
  injection hq with hq
  rw [e, ← hq];exact hp
 ·exact h1.pr u q hq
theorem spk_enter (h:Spk N i0 c) {w:Int} (hd:c.dec.length≤1000) (hw:0≤w∧w≤1000) (hv:(c.step = 0∧c.view≤w)∨c.view < w):Spk N i0 (c.enter w):=by
 have hle:c.view≤w:=by omega
 have hD:Spk N i0 (({ c with view:=w }:CoD).to 1):=spk_view h hd hw hle
 have hp:N (({ c with view:=w }:CoD).to 1).prop1.1 ∧ -1≤(({ c with view:=w }:CoD).to 1).prop1.2∧(({ c with view:=w }:CoD).to 1).prop1.2 < w:=by
  unfold CoD.prop1 CoD.to
  simp only
  split
  ·rename_i h0
   refine ⟨h.1.vv,by simp only;omega, ?_⟩
   simp only
   rcases hv with ⟨hv,_⟩ | hv
   ·have:=(h.1.v0 hv).1;omega
   ·have:=h.1.vw.2;omega
  ·exact ⟨h.1.tp,by simp,by simp only;omega⟩
 unfold CoD.enter
 simp only
 split
 ·refine spk_send (spk_setProp hD hp) ?_ rfl rfl fun _=>Int.le_refl _
  exact ⟨⟨by unfold CoD.offer;exact Int.natCast_nonneg _,by unfold CoD.offer;show (c.dec.length:Int)≤1000;omega⟩, .inl ⟨rfl,hp.1,hw,hp.2.1,hp.2.2⟩⟩
 ·exact hD
theorem spk_cast (h:Spk N i0 c) {k x s l:Int} (hd:c.dec.length≤1000) (hx:x = -1∨N x) (hs:1≤s∧s≤3) :
  Spk N i0 { c.cast k x with step:=s,left:=l }:=by
 have key:Spk N i0 { c with step:=s,left:=l }:=by
  obtain ⟨h1,h2,h3⟩:=h
  exact ⟨⟨h1.st,h1.lt,h1.tab,⟨by simp only;omega,by simp only;omega⟩,h1.rv,h1.dl,fun _=>hd,h1.pr,h1.sd,h1.vv,h1.tp,h1.dc,h1.vw,fun q=>by simp only at q;omega⟩,h2,h3⟩
 unfold CoD.cast
 split
 ·rename_i hok
  have hk:=vok_iff.1 hok
  have hm:(c.vote k x).Ok N:=⟨⟨by unfold CoD.vote;exact Int.natCast_nonneg _,by unfold CoD.vote;show (c.dec.length:Int)≤1000;omega⟩, .inr (.inl ⟨hk.1.1,hx,hk.1.2.1,rfl⟩)⟩
  have h2:=spk_send (m:=c.vote k x) key hm rfl rfl fun _=>Int.le_refl _
  obtain ⟨g1,g2,g3⟩:=h2
  refine ⟨⟨g1.st,g1.lt,fun k' w i v hv => ?_,g1.rs,g1.rv,g1.dl,g1.di,g1.pr,g1.sd,g1.vv,g1.tp,g1.dc,g1.vw,g1.v0⟩,g2,g3⟩
  simp only at hv
  rw [vadd_get] at hv
  split at hv
  ·rename_i hc
   injection hv with hv
   rw [hc.2.1,hc.2.2.1,hc.2.2.2, ← hv]
   exact ⟨hk.1.1,hk.1.2.1,hk.2.1,hx⟩
  ·exact h.1.tab k' w i v hv
 ·exact key
theorem spk_lock (h:Spk N i0 c) {x:Int} (hx:x = -1∨N x) (h0:c.step≠0):Spk N i0 (c.lock x):=by
 unfold CoD.lock
 split
 ·exact h
 ·rename_i hne
  obtain ⟨h1,h2,h3⟩:=h
  exact ⟨⟨h1.st,h1.lt,h1.tab,h1.rs,h1.rv,h1.dl,h1.di,h1.pr,h1.sd,hx.resolve_left hne,h1.tp,h1.dc,⟨by have:=h1.rv.1;simp only;omega,Int.le_refl _⟩,fun q=>absurd q h0⟩,h2,h3⟩
theorem spk_valid (h:Spk N i0 c) {x:Int} (hx:N x) (h0:c.step≠0):Spk N i0 (c.valid x):=by
 obtain ⟨h1,h2,h3⟩:=h
 exact ⟨⟨h1.st,h1.lt,h1.tab,h1.rs,h1.rv,h1.dl,h1.di,h1.pr,h1.sd,hx,h1.tp,h1.dc,⟨by have:=h1.rv.1;unfold CoD.valid;simp only;omega,Int.le_refl _⟩,fun q=>absurd q h0⟩,h2,h3⟩
theorem spk_conclude (h:Spk N i0 c) {v:Int} (hd:c.dec.length≤1000) (hv:N v) (h0:N 0):Spk N i0 (c.conclude v):=by
 obtain ⟨h1,h2,h3⟩:=h
 have hidx:(CoD.conclude c v).idx = c.idx + 1:=by unfold CoD.conclude CoD.rest CoD.idx;simp
 refine ⟨⟨h1.st,h1.lt,fun k w i x q=>(by cases q),(by unfold CoD.conclude CoD.rest;simp),(by unfold CoD.conclude CoD.rest;simp),(by unfold CoD.conclude CoD.rest;simp;omega),fun q=>absurd rfl q,fun w p q=>(by cases q),fun j x q=>(by cases q),h0,h1.tp,fun x hx => ?_,(by unfold CoD.conclude CoD.rest;simp),fun _=>⟨rfl,rfl⟩⟩,by rw [hidx];omega,fun a ha => ?_⟩
 ·rcases List.mem_append.1 hx with hx | hx
  ·exact h1.dc x hx
  ·rw [List.mem_singleton] at hx;rw [hx];exact hv
 ·rcases List.mem_append.1 ha with ha | ha
  ·obtain ⟨a1,a2,a3,a4,a5,a6⟩:=h3 a ha
   exact ⟨a1,a2,a3,by rw [hidx];omega,a5,fun e=>by rw [hidx] at e;omega⟩
  ·rw [List.mem_singleton] at ha
   subst ha
   refine ⟨⟨⟨Int.natCast_nonneg _,by show (c.dec.length:Int)≤1000;omega⟩, .inr (.inr ⟨rfl,hv,rfl,rfl⟩)⟩,rfl,⟨by simp,by show (-1:Int) < c.t.length;omega⟩,by rw [hidx];show c.idx≤_;omega,fun _=>h2,fun _ q=>absurd rfl q⟩
theorem Aux.agreed (h:Aux N c) {v:Int} (hv:c.agreed = some v):N v:=by
 unfold CoD.agreed at hv
 cases hc:c.T.commOf c.t with
 | some x =>
  rw [hc] at hv
  have:x = v:=by simpa using hv
  subst this
  obtain ⟨j,_,hj⟩:=Tab.commOf_some hc
  obtain ⟨hm,hne⟩:=(Tab.commAt_iff h.st).1 hj
  obtain ⟨i,_,hi⟩:=Tab.Mst.one h.st hm
  exact (h.tab _ _ _ _ hi).2.2.2.resolve_left hne
 | none =>
  rw [hc,Option.none_or] at hv
  unfold CoD.saidOf at hv
  have hm:=List.min?_mem hv
  unfold CoD.saidAll at hm
  obtain ⟨i,_,hi⟩:=List.mem_filterMap.1 hm
  cases hs:c.said i with
  | none=>rw [hs] at hi;cases hi
  | some y =>
   rw [hs] at hi
   simp only at hi
   split at hi
   ·injection hi with hi
    rw [← hi];exact h.sd i y hs
   ·cases hi
theorem Aux.mostN (h:Aux N c) {k w x:Int} (hm:c.T.mostOf c.t k w = some x):x = -1∨N x:=by
 obtain ⟨i,_,hi⟩:=Tab.Mst.one h.st ((Tab.mostOf_iff h.st).1 hm)
 exact (h.tab _ _ _ _ hi).2.2.2
theorem ahead_le {T:Tab} {t:List Int} {w:Int} (h:w < T.aheadOf t w):0≤T.aheadOf t w∧T.aheadOf t w≤1000:=by
 rcases Tab.aheadTo_spec (g:=T) (t:=t) (w:=w) 1001 with ⟨h1,_⟩ | ⟨m,h1,h2,_⟩
 ·unfold Tab.aheadOf at h;omega
 ·unfold Tab.aheadOf;omega
theorem spk_step1 (h:Spk N i0 c) (h0:N 0) {kn:List Int} {d:CoD} (hd:c.step1 kn = some d):Spk N i0 d:=by
 unfold CoD.step1 at hd
 split at hd
 ·cases hd
 rename_i hlen
 have hlen:c.dec.length≤1000:=by omega
 split at hd
 ·rename_i v hv
  injection hd with hd
  subst hd
  exact spk_conclude h hlen (h.1.agreed hv) h0
 split at hd
 ·cases hd
 rename_i hs0
 split at hd
 ·rename_i ha
  injection hd with hd
  subst hd
  exact spk_enter h hlen (ahead_le ha) (.inr ha)
 split at hd
 ·unfold CoD.step3 at hd
  split at hd
  ·cases hd
  ·rename_i p hpp
   split at hd
   ·injection hd with hd
    subst hd
    refine spk_cast h hlen ?_ (by decide)
    split
    ·exact .inr (h.1.pr _ _ hpp).1
    ·exact .inl rfl
   ·cases hd
 ·unfold CoD.step45 at hd
  split at hd
  ·cases hd
  ·rename_i x hx
   split at hd
   ·split at hd
    ·injection hd with hd
     subst hd
     unfold CoD.comm
     refine spk_cast (spk_lock h (h.1.mostN hx) hs0) ?_ (h.1.mostN hx) (by decide)
     unfold CoD.lock;split <;> exact hlen
    ·cases hd
   ·split at hd
    ·rename_i hc
     injection hd with hd
     subst hd
     exact spk_valid h ((h.1.mostN hx).resolve_left hc.1) hs0
    ·cases hd
theorem mu_enter (c:CoD) (w:Int):(c.enter w).mu = CoD.muV c.dec.length w 1 c.vw:=by
 unfold CoD.enter CoD.mu
 simp only
 split <;> rfl
theorem mu_cast (c:CoD) (k x s:Int):((c.cast k x).to s).mu = CoD.muV c.dec.length c.view s c.vw:=by
 unfold CoD.cast CoD.to CoD.mu
 split <;> rfl
theorem mu_step1 (h:Aux N c) {kn:List Int} {d:CoD} (hd:c.step1 kn = some d):d.mu < c.mu:=by
 obtain ⟨hs1,hs2⟩:=h.rs
 obtain ⟨hv1,hv2⟩:=h.rv
 have hvw:=h.vw
 unfold CoD.step1 at hd
 split at hd
 ·cases hd
 rename_i hlen
 split at hd
 ·rename_i v _
  injection hd with hd
  subst hd
  show CoD.muV (c.dec ++ [v]).length 0 0 (-1) < CoD.muV c.dec.length c.view c.step c.vw
  rw [List.length_append,List.length_singleton]
  unfold CoD.muV
  split <;> split <;> omega
 split at hd
 ·cases hd
 rename_i hs0
 split at hd
 ·rename_i ha
  injection hd with hd
  subst hd
  have hle:=ahead_le ha
  rw [mu_enter]
  show _ < CoD.muV c.dec.length c.view c.step c.vw
  unfold CoD.muV
  generalize c.T.aheadOf c.t c.view = a at ha hle
  split <;> split <;> omega
 split at hd
 ·rename_i hs
  unfold CoD.step3 at hd
  split at hd
  ·cases hd
  ·split at hd
   ·injection hd with hd
    subst hd
    unfold CoD.prep
    rw [mu_cast]
    show _ < CoD.muV c.dec.length c.view c.step c.vw
    rw [hs]
    unfold CoD.muV
    split <;> omega
   ·cases hd
 ·unfold CoD.step45 at hd
  split at hd
  ·cases hd
  ·rename_i x _
   split at hd
   ·rename_i hs
    split at hd
    ·injection hd with hd
     subst hd
     unfold CoD.comm
     rw [mu_cast]
     show _ < CoD.muV c.dec.length c.view c.step c.vw
     rw [hs]
     unfold CoD.lock
     split
     ·unfold CoD.muV
      split <;> omega
     ·show CoD.muV c.dec.length c.view 3 c.view < _
      unfold CoD.muV
      rw [if_neg (Int.lt_irrefl _)]
      split <;> omega
    ·cases hd
   ·split at hd
    ·rename_i hc
     injection hd with hd
     subst hd
     show CoD.muV c.dec.length c.view c.step c.view < CoD.muV c.dec.length c.view c.step c.vw
     unfold CoD.muV
     rw [if_neg (Int.lt_irrefl _),if_pos hc.2.2]
     omega
    ·cases hd
theorem settleN_ind (P:CoD→Prop) {kn:List Int} (hs:∀ c d,P c→c.step1 kn = some d→P d):∀ (n:Nat) (c:CoD),P c→P (CoD.settleN n c kn)
 | 0,_,h=>h
 | n + 1,c,h=>by
  unfold CoD.settleN
  cases hd:c.step1 kn with
  | none=>exact h
  | some d=>exact settleN_ind P hs n d (hs c d h hd)
theorem settle_ind (P:CoD→Prop) {kn:List Int} (hs:∀ c d,P c→c.step1 kn = some d→P d) (h:P c):P (c.settle kn):=settleN_ind P hs _ c h
theorem settleN_succ (n:Nat) (c:CoD) (kn:List Int):CoD.settleN (n + 1) c kn = match c.step1 kn with | none=>c | some d=>CoD.settleN n d kn:=rfl
theorem settleN_more {kn:List Int} (h0:N 0) (n:Nat):∀ (m:Nat) (c:CoD),Spk N i0 c→c.mu < n→c.mu < m→CoD.settleN n c kn = CoD.settleN m c kn:=by
 induction n with
 | zero=>intro m c _ h1 _;exact absurd h1 (Nat.not_lt_zero _)
 | succ n ih =>
  intro m c hc h1 h2
  cases m with
  | zero=>exact absurd h2 (Nat.not_lt_zero _)
  | succ m =>
   rw [settleN_succ,settleN_succ]
   cases hd:c.step1 kn with
   | none=>rfl
   | some d =>
    have:=mu_step1 hc.1 hd
    exact ih m d (spk_step1 hc h0 hd) (by omega) (by omega)
theorem settle_none {kn:List Int} (h:c.step1 kn = none):c.settle kn = c:=by unfold CoD.settle;rw [settleN_succ,h]
theorem settle_some {kn:List Int} (hc:Spk N i0 c) (h0:N 0) {d:CoD} (h:c.step1 kn = some d):c.settle kn = d.settle kn:=by
 unfold CoD.settle
 have e:CoD.settleN (c.mu + 1) c kn = CoD.settleN c.mu d kn:=by rw [settleN_succ,h]
 rw [e]
 exact settleN_more h0 _ _ d (spk_step1 hc h0 h) (mu_step1 hc.1 h) (Nat.lt_succ_self _)
theorem spk_settle (h:Spk N i0 c) (h0:N 0) (kn:List Int):Spk N i0 (c.settle kn):=settle_ind (Spk N i0) (fun _ _ hc hd=>spk_step1 hc h0 hd) h
end
end Go.Proofs.YtdoeoncmhaihbaaGreat
namespace Go.Proofs.YtdoeoncmhaihbaaGreat
set_option maxRecDepth 100000
section
variable {bad:Nat→Prop} {N:Int→Prop} {L:List AcV} {c:CoD} {i0:Int} {m:MsV}
theorem spk_hear (h:Spk N i0 c) (hm:m.Ok N):Spk N i0 (c.hear m):=by
 unfold CoD.hear
 split
 ·rename_i h3
  split
  ·refine spk_setProp h ?_
   rcases hm.2 with q | q | q
   ·exact ⟨q.2.1,q.2.2.2.1,q.2.2.2.2⟩
   ·omega
   ·omega
  ·exact h
 ·rename_i h3
  split
  ·rename_i h6
   split
   ·obtain ⟨h1,h2,h4⟩:=h
    refine ⟨⟨h1.st,h1.lt,h1.tab,h1.rs,h1.rv,h1.dl,h1.di,h1.pr,fun j v hv => ?_,h1.vv,h1.tp,h1.dc,h1.vw,h1.v0⟩,h2,h4⟩
    simp only at hv
    split at hv
    ·injection hv with hv
     rw [← hv]
     rcases hm.2 with q | q | q
     ·omega
     ·omega
     ·exact q.2.1
    ·exact h1.sd j v hv
   ·exact h
  ·rename_i h6
   obtain ⟨h1,h2,h4⟩:=h
   refine ⟨⟨h1.st,h1.lt,fun k w i x hv => ?_,h1.rs,h1.rv,h1.dl,h1.di,h1.pr,h1.sd,h1.vv,h1.tp,h1.dc,h1.vw,h1.v0⟩,h2,h4⟩
   simp only at hv
   rw [vadd_get] at hv
   split at hv
   ·rename_i hc
    have hk:=vok_iff.1 hc.1
    injection hv with hv
    rw [hc.2.1,hc.2.2.1,hc.2.2.2, ← hv]
    refine ⟨hk.1.1,hk.1.2.1,hk.2.1, ?_⟩
    rcases hm.2 with q | q | q
    ·omega
    ·exact q.2.1
    ·omega
   ·exact h1.tab k w i x hv
theorem spk_reply (h:Spk N i0 c) (hx:0≤m.ix∧m.ix < c.idx) (hf:0≤m.fm∧m.fm < c.t.length):Spk N i0 { c with out:=c.out ++ [⟨m.fm,⟨6,c.me,m.ix,0,c.dec.getD m.ix.toNat 0,0⟩⟩] }:=by
 obtain ⟨h1,h2,h3⟩:=h
 refine ⟨⟨h1.st,h1.lt,h1.tab,h1.rs,h1.rv,h1.dl,h1.di,h1.pr,h1.sd,h1.vv,h1.tp,h1.dc,h1.vw,h1.v0⟩,h2,fun a ha => ?_⟩
 rcases List.mem_append.1 ha with ha | ha
 ·exact h3 a ha
 ·rw [List.mem_singleton] at ha
  subst ha
  have hl:m.ix < c.dec.length:=hx.2
  have hj:m.ix.toNat < c.dec.length:=by omega
  refine ⟨⟨⟨hx.1,by have:=h1.dl;simp only;omega⟩, .inr (.inr ⟨rfl, ?_,rfl,rfl⟩)⟩,rfl,⟨by simp only;omega,hf.2⟩,Int.le_of_lt hx.2,fun q=>by simp only at q;omega,fun _ q=>absurd rfl q⟩
  simp only [List.getD_eq_getElem?_getD,List.getElem?_eq_getElem hj,Option.getD_some]
  exact h1.dc _ (List.getElem_mem hj)
theorem spk_left (h:Spk N i0 c) (l:Int):Spk N i0 { c with left:=l }:=by
 obtain ⟨h1,h2,h3⟩:=h
 exact ⟨⟨h1.st,h1.lt,h1.tab,h1.rs,h1.rv,h1.dl,h1.di,h1.pr,h1.sd,h1.vv,h1.tp,h1.dc,h1.vw,h1.v0⟩,h2,h3⟩
theorem spk_tip (h:Spk N i0 c) {x:Int} (hx:N x):Spk N i0 { c with tip:=x }:=by
 obtain ⟨h1,h2,h3⟩:=h
 exact ⟨⟨h1.st,h1.lt,h1.tab,h1.rs,h1.rv,h1.dl,h1.di,h1.pr,h1.sd,h1.vv,hx,h1.dc,h1.vw,h1.v0⟩,h2,h3⟩
theorem spk_to (h:Spk N i0 c) (hd:c.dec.length≤1000) {s:Int} (hs:1≤s∧s≤3):Spk N i0 (c.to s):=by
 obtain ⟨h1,h2,h3⟩:=h
 exact ⟨⟨h1.st,h1.lt,h1.tab,⟨by unfold CoD.to;simp only;omega,hs.2⟩,h1.rv,h1.dl,fun _=>hd,h1.pr,h1.sd,h1.vv,h1.tp,h1.dc,h1.vw,fun q=>by unfold CoD.to at q;simp only at q;omega⟩,h2,h3⟩
theorem spk_tock (h:Spk N i0 c) (hd:c.dec.length≤1000):Spk N i0 c.tock:=by
 unfold CoD.tock
 split
 ·rename_i h0
  exact spk_enter h hd (by decide) (.inl ⟨h0,by rw [(h.1.v0 h0).2];exact Int.le_refl _⟩)
 ·have h':=spk_left h (tck c.left)
  simp only
  split
  ·split
   ·exact spk_cast h' hd (.inl rfl) (by decide)
   ·split
    ·exact spk_cast h' hd (.inl rfl) (by decide)
    ·split
     ·rename_i hlt
      have hv0:=h.1.rv.1
      exact spk_enter h' hd (w:=c.view + 1) ⟨by omega,by omega⟩ (.inr (show c.view < c.view + 1 by omega))
     ·exact spk_to h' hd (by decide)
  ·exact h'
def AgOk (c:CoD) (m:MsV):Prop:=(∃ w p,c.prop w = some p∧w = c.view∧m = c.offer w p)∨∃ k x,(k = 4∨k = 5)∧c.T k c.view c.me = some x∧m = c.vote k x
theorem again_ok (c:CoD):∀ m∈c.again,AgOk c m:=by
 intro m hm
 unfold CoD.again at hm
 rcases List.mem_append.1 hm with hm | hm
 ·rcases List.mem_append.1 hm with hm | hm
  ·cases hp:c.prop c.view with
   | none=>rw [hp] at hm;cases hm
   | some p =>
    rw [hp] at hm
    simp only at hm
    split at hm
    ·rw [List.mem_singleton] at hm;exact .inl ⟨_,p,hp,rfl,hm⟩
    ·cases hm
  ·cases hp:c.T 4 c.view c.me with
   | none=>rw [hp] at hm;cases hm
   | some x=>rw [hp] at hm;exact .inr ⟨4,x, .inl rfl,hp,by simpa using hm⟩
 ·cases hp:c.T 5 c.view c.me with
  | none=>rw [hp] at hm;cases hm
  | some x=>rw [hp] at hm;exact .inr ⟨5,x, .inr rfl,hp,by simpa using hm⟩
theorem out_nil (c:CoD):({ c with out:=c.out ++ ([]:List MsV).map fun m=>⟨-1,m⟩ }:CoD) = c:=by simp
theorem out_cons (c:CoD) (m:MsV) (M:List MsV):({ c with out:=c.out ++ (m :: M).map fun m=>(⟨-1,m⟩:AcV) }:CoD) = { c.send m with out:=(c.send m).out ++ M.map fun m=>(⟨-1,m⟩:AcV) }:=by
 unfold CoD.send
 simp
theorem spk_out (M:List MsV):∀ c:CoD,Spk N i0 c→c.dec.length≤1000→(∀ m∈M,AgOk c m)→Spk N i0 { c with out:=c.out ++ M.map fun m=>(⟨-1,m⟩:AcV) }:=by
 induction M with
 | nil=>intro c h _ _;rw [out_nil];exact h
 | cons m M ih =>
  intro c h hd hM
  rw [out_cons]
  refine ih (c.send m) ?_ hd fun q hq=>hM q (List.mem_cons_of_mem _ hq)
  have hix:0≤(c.dec.length:Int)∧(c.dec.length:Int)≤1000:=⟨Int.natCast_nonneg _,by omega⟩
  rcases hM m (List.mem_cons_self ..) with ⟨w,p,hp,rfl,rfl⟩ | ⟨k,x,hk,hx,rfl⟩
  ·have:=h.1.pr _ _ hp
   exact spk_send h ⟨hix, .inl ⟨rfl,this.1,h.1.rv,this.2.1,this.2.2⟩⟩ rfl rfl fun _=>Int.le_refl _
  ·have:=h.1.tab _ _ _ _ hx
   exact spk_send h ⟨hix, .inr (.inl ⟨hk,this.2.2.2,h.1.rv,rfl⟩)⟩ rfl rfl fun _=>Int.le_refl _
theorem spk_resend (h:Spk N i0 c):Spk N i0 c.resend:=by
 unfold CoD.resend
 split
 ·exact h
 ·rename_i h0
  exact spk_out _ c h (h.1.di h0) fun m hm=>again_ok c m ((List.mem_filter.1 hm).1)
theorem spk_handle (h:Spk N i0 c) (hm:m.Ok N) (h0:N 0) (hf:0≤m.fm) (kn:List Int):Spk N i0 (c.handle m kn):=by
 unfold CoD.handle
 split
 ·exact h
 ·rename_i hc
  split
  ·rename_i hlt
   split
   ·exact h
   ·exact spk_reply h ⟨hm.1.1,hlt⟩ ⟨hf,by omega⟩
  ·exact spk_settle (spk_hear h hm) h0 kn
theorem spk_tick (h:Spk N i0 c) (h0:N 0) {tip:Int} (ht:N tip) (kn:List Int):Spk N i0 (c.tick kn tip):=by
 unfold CoD.tick
 split
 ·exact h
 ·rename_i hd
  exact spk_resend (spk_settle (spk_tock (spk_tip h ht) (by show c.dec.length≤1000;omega)) h0 kn)
end
def CoD.Like (c d:CoD):Prop:=d.me = c.me∧d.t = c.t∧d.base = c.base∧d.most = c.most
section
variable {c d e:CoD}
theorem CoD.Like.refl (c:CoD):c.Like c:=⟨rfl,rfl,rfl,rfl⟩
theorem CoD.Like.trans (h:c.Like d) (k:d.Like e):c.Like e:=⟨k.1.trans h.1,k.2.1.trans h.2.1,k.2.2.1.trans h.2.2.1,k.2.2.2.trans h.2.2.2⟩
theorem like_enter (c:CoD) (w:Int):c.Like (c.enter w):=by
 unfold CoD.enter
 simp only
 split <;> exact ⟨rfl,rfl,rfl,rfl⟩
theorem like_cast (c:CoD) (k x:Int):c.Like (c.cast k x):=by
 unfold CoD.cast
 split <;> exact ⟨rfl,rfl,rfl,rfl⟩
theorem like_castTo (c:CoD) (k x s:Int):c.Like ((c.cast k x).to s):=(like_cast c k x).trans ⟨rfl,rfl,rfl,rfl⟩
theorem like_lock (c:CoD) (x:Int):c.Like (c.lock x):=by
 unfold CoD.lock
 split <;> exact ⟨rfl,rfl,rfl,rfl⟩
theorem like_step1 {kn:List Int} (h:c.step1 kn = some d):c.Like d:=by
 unfold CoD.step1 at h
 split at h
 ·cases h
 split at h
 ·injection h with h;subst h;exact ⟨rfl,rfl,rfl,rfl⟩
 split at h
 ·cases h
 split at h
 ·injection h with h;subst h;exact like_enter c _
 split at h
 ·unfold CoD.step3 at h
  split at h
  ·cases h
  ·split at h
   ·injection h with h;subst h;exact like_castTo c _ _ _
   ·cases h
 ·unfold CoD.step45 at h
  split at h
  ·cases h
  ·split at h
   ·split at h
    ·injection h with h;subst h;exact (like_lock c _).trans (like_castTo _ _ _ _)
    ·cases h
   ·split at h
    ·injection h with h;subst h;exact ⟨rfl,rfl,rfl,rfl⟩
    ·cases h
theorem like_settle (c:CoD) (kn:List Int):c.Like (c.settle kn):=settle_ind (fun d=>c.Like d) (fun _ _ h hd=>h.trans (like_step1 hd)) (CoD.Like.refl c)
theorem like_hear (c:CoD) (m:MsV):c.Like (c.hear m):=by
 unfold CoD.hear
 split
 ·split <;> exact ⟨rfl,rfl,rfl,rfl⟩
 ·split
  ·split <;> exact ⟨rfl,rfl,rfl,rfl⟩
  ·exact ⟨rfl,rfl,rfl,rfl⟩
theorem like_handle (c:CoD) (m:MsV) (kn:List Int):c.Like (c.handle m kn):=by
 unfold CoD.handle
 split
 ·exact CoD.Like.refl c
 ·split
  ·split <;> exact ⟨rfl,rfl,rfl,rfl⟩
  ·exact (like_hear c m).trans (like_settle _ kn)
theorem like_tock (c:CoD):c.Like c.tock:=by
 unfold CoD.tock
 split
 ·exact like_enter c 0
 ·simp only
  have h:c.Like { c with left:=tck c.left }:=⟨rfl,rfl,rfl,rfl⟩
  split
  ·split
   ·exact h.trans (like_castTo _ _ _ _)
   ·split
    ·exact h.trans (like_castTo _ _ _ _)
    ·split
     ·exact h.trans (like_enter _ _)
     ·exact ⟨rfl,rfl,rfl,rfl⟩
  ·exact h
theorem like_resend (c:CoD):c.Like c.resend:=by
 unfold CoD.resend
 split <;> exact ⟨rfl,rfl,rfl,rfl⟩
theorem like_tick (c:CoD) (kn:List Int) (tip:Int):c.Like (c.tick kn tip):=by
 unfold CoD.tick
 split
 ·exact ⟨rfl,rfl,rfl,rfl⟩
 ·exact (((show c.Like { c with tip:=tip } from ⟨rfl,rfl,rfl,rfl⟩).trans (like_tock _)).trans (like_settle _ kn)).trans (like_resend _)
theorem like_restore (c:CoD) (J:List RcV):c.Like (c.restore J):=by
 unfold CoD.restore
 exact ⟨rfl,rfl,rfl,rfl⟩
end
end Go.Proofs.YtdoeoncmhaihbaaGreat
namespace Go.Proofs.YtdoeoncmhaihbaaGreat
set_option maxRecDepth 100000
open Go.RowKit
set_option maxHeartbeats 400000 in
theorem refNum_any (x:Nat) (w:World) (hx:W64 x) :
  Calls Tryz.prog 83 #[.int .u64 x] w fun e w' => ∃ v',e = .returned v'∧OwnB w.heap.size w' v' (numL x)∧Ext w w':=by
 refine z2rz ?_
 have hx10:=numL_len10 hx
 have HX:=hide_ hx
 clear hx
 go_enter Tryz.func83,Tryz.ntmps83
 go_wp2
 go_loopw [0,3] (fun n v' wr => ∃ (ys:List Nat) (m:Nat),n = .int .u64 m∧OwnB w.heap.size wr v' ys∧Hid (ys ++ numL m = numL x)∧Ext w wr∧ys.length≤10∧W64 m)
  (fun n _ _=>(intOf n).toNat)
 case atStart=>exact ⟨[],x,rfl,own_empty,rfl,(Ext.refl _).alloc _,by simp,HX.out⟩
 case round =>
  obtain ⟨ys,m,rfl,ho,heq,hbw,hyl,hm64⟩:=hrel
  have hq64:IntKind.u64.wrap ((m:Int) / 128) = (m:Int) / 128:=by
   have:=wrapU64 (m / 128) (by unfold W64 at hm64;omega)
   simpa using this
  have hs:=hbw.size
  have hbytes:ys.length + 1≤140737488355328:=by omega
  by_cases h128:128≤m
  ·have hz:((m:Int) / 128 == 0) = false:=by rw [beq_eq_false_iff_ne];omega
   have hw8:IntKind.u8.wrap ((m:Int) % 128 + 128) = (m:Int) % 128 + 128:=by simp [IntKind.wrap,IntKind.bits,IntKind.signed];omega
   go_wp2_with (at_builtin;refine appb (.tmp 17) (.tmp 20) rfl rfl rfl rfl (ho.ext ((Ext.refl _).alloc _)) (byt_one (n:=m % 128 + 128) (by omega)) hbytes (by simp;omega) ?_;intro v1 w1 ho1 hb1 hg1)
   go_roundw
   case rel =>
    refine ⟨ys ++ [m % 128 + 128],m / 128,by go_num,ho1, ?_,(show Below _ _ _ from hbw).trans ((((Below.refl _ _).alloc (by omega) _)).trans hb1), ?_,by unfold W64 at hm64 ⊢;omega⟩
    ·have:=heq.out;rw [numL_big h128] at this;unfold Hid;rw [← this];simp
    ·have:=heq.out;rw [numL_big h128] at this;have:=congrArg List.length this;simp at this ⊢;omega
   case measure=>simp [intOf];omega
  ·have hz:((m:Int) / 128 == 0) = true:=by rw [beq_iff_eq];omega
   go_wp2_with (at_builtin;refine appb (.tmp 13) (.tmp 15) rfl rfl rfl rfl (ho.ext ((Ext.refl _).alloc _)) (byt_one (n:=m) (by omega)) hbytes (by simp;omega) ?_;intro v1 w1 ho1 hb1 hg1)
   go_ret
   refine Keep.intro ⟨v1,rfl, ?_,(show Below _ _ _ from hbw).trans ((((Below.refl _ _).alloc (by omega) _)).trans hb1)⟩
   have:=heq.out;rw [numL_small (by omega)] at this;rw [← this];exact ho1
def NuOk (l:List Int):Prop:=l.length≤64∧∀ x∈l, -1≤x
def nuL:List Int→List Nat
 | [] => []
 | x :: r=>numL (x + 1).toNat ++ nuL r
theorem nuL_append (l m:List Int):nuL (l ++ m) = nuL l ++ nuL m:=by
 induction l with
 | nil=>rfl
 | cons x r ih=>simp [nuL,ih]
theorem nuL_len:∀ l:List Int,(∀ x∈l,x≤9223372036854775807)→(nuL l).length≤10 * l.length
 | [],_=>by simp [nuL]
 | x :: r,h=>by
  have:=nuL_len r fun y hy=>h y (List.mem_cons_of_mem _ hy)
  have h2:=numL_len10 (n:=(x + 1).toNat) (by have:=h x (List.mem_cons_self ..);unfold W64;omega)
  simp [nuL];omega
instance (l:List Int):Decidable (NuOk l):=by unfold NuOk;exact inferInstance
def nuB (l:List Int):List Nat:=if NuOk l then nuL l else []
def nuErr (l:List Int):Nat:=if NuOk l then 0 else 11
theorem wrapNum (x:Int) (h : -1≤x) (h2:x≤9223372036854775807):IntKind.u64.wrap (IntKind.u64.wrap x + 1) = ((x + 1).toNat:Int):=by
 simp [IntKind.wrap,IntKind.bits,IntKind.signed];omega
theorem take_one (l:List Int) (k:Nat) (h:k < l.length):l.take (k + 1) = l.take k ++ [l[k]]:=by
 rw [List.take_succ_eq_append_getElem h]
theorem nuOk_of {l:List Int} (h:l.length≤64) (h2:∀ x∈l.take l.length, -1≤x):NuOk l:=⟨h,by rwa [List.take_length] at h2⟩
set_option maxHeartbeats 800000 in
theorem refNums_any (v:Value) (l:List Int) (W:World) (hI:I64s l) (h:Ints W v l) :
  Calls Tryz.prog 66 #[v] W fun e w' => ∃ v',e = .returned (.tuple #[v', .int .i64 (nuErr l)])∧OwnB W.heap.size w' v' (nuB l)∧Ext W w':=by
 refine z2rz ?_
 have no:¬ NuOk l→∀ e w',e = .returned (.tuple #[.slice none 0 0, .int .i64 11])→Ext W w'→Keep (fun e w' => ∃ v',e = .returned (.tuple #[v', .int .i64 (nuErr l)])∧OwnB W.heap.size w' v' (nuB l)∧Ext W w') e w':=by
  intro h0 e w' he hx
  exact Keep.intro ⟨_,by rw [he,nuErr,if_neg h0];rfl,by rw [nuB,if_neg h0];exact OwnB.nil _ _,hx⟩
 have No:=hide_ no
 clear no
 by_cases hbig:64 < l.length
 ·have t0:(decide ((64:Int) < (l.length:Int))) = true:=by simp;omega
  have hno:=hide_ (show ¬ NuOk l from fun e=>by have:=e.1;omega)
  clear hbig
  go_enter Tryz.func66,Tryz.ntmps66
  go_wp2_with (first | (refine i_len (.tmp 7) rfl rfl (v:=v) rfl h ?_))
  go_ret2
  exact No.out hno.out _ _ rfl (Ext.refl _)
 ·have t0:(decide ((64:Int) < (l.length:Int))) = false:=by simp;omega
  have hL:=hide_ hI
  clear hI
  go_enter Tryz.func66,Tryz.ntmps66
  go_wp2_with (first | (refine i_len (.tmp 7) rfl rfl (v:=v) rfl h ?_) | (refine i_len (.tmp 11) rfl rfl (v:=v) rfl (h.ext (by first | exact Ext.refl _ | exact (Ext.refl _).alloc _)) ?_))
  go_loopw [4,13] (fun out i wr => ∃ (k:Nat),i = .int .i64 k∧k≤l.length∧OwnB W.heap.size wr out (nuL (l.take k))∧Ext W wr∧Hid (∀ x∈l.take k, -1≤x))
   (fun _ i _=>l.length - (intOf i).toNat)
  case atStart=>exact ⟨0,rfl,Nat.zero_le _,by simpa [nuL] using own_empty,(Ext.refl _).alloc _,fun x hx=>by simp at hx⟩
  case round =>
   obtain ⟨k,rfl,hk,ho,hbw,hall⟩:=hrel
   by_cases hlt:k < l.length
   ·obtain ⟨hx0,hx1⟩:=hL.out l[k] (List.getElem_mem hlt)
    have hnl:(nuL (l.take k)).length≤640:=by
     have:=nuL_len (l.take k) (fun x hx=>(hL.out x (List.mem_of_mem_take hx)).2)
     simp at this;omega
    by_cases hneg:l[k] < -1
    ·have t2:(decide (l[k] < -1)) = true:=by simpa using hneg
     have hno:=hide_ (show ¬ NuOk l from fun e=>by have:=e.2 l[k] (List.getElem_mem hlt);omega)
     clear hneg hx0 hx1
     go_wp2_with (first | (refine i_idx (.tmp 11) (.tmp 13) k rfl rfl (v:=v) rfl (h.ext hbw) rfl hlt ?_;intro ad had))
     go_ret2
     exact No.out hno.out _ _ rfl hbw
    ·have t2:(decide (l[k] < -1)) = false:=by simp;omega
     have hw:=wrapNum l[k] (by omega) hx1
     obtain ⟨y,hy⟩:∃ y,IntKind.u64.wrap l[k] = y:=⟨_,rfl⟩
     rw [hy] at hw
     have hx64:W64 (l[k] + 1).toNat:=by unfold W64;omega
     obtain ⟨q,hq⟩:∃ q,(l[k] + 1).toNat = q:=⟨_,rfl⟩
     rw [hq] at hw hx64
     have Hq:=hide_ hq
     clear hq
     have hn10:=numL_len10 hx64
     have Hk:=hide_ (show -1≤l[k] from by omega)
     clear hneg hx0 hx1
     go_wp2_with (first | (refine i_idx (.tmp 11) (.tmp 13) k rfl rfl (v:=v) rfl (h.ext hbw) rfl hlt ?_;intro ad had) | (go_at_call 83;refine (refNum_any q _ hx64).mono ?_;rintro e w0 ⟨v0,rfl,ho0,hx0⟩) | (at_builtin;refine appb (.tmp 19) (.tmp 23) rfl rfl rfl rfl (ho.ext hx0) ho0.byt (by omega) (Nat.le_trans hbw.size hx0.size) ?_;intro v1 w1 ho1 hb1' hg1;have hb1:=Below.trans (Below.mono hx0 hbw.size) hb1';clear hb1' hg1))
     go_roundw
     case rel =>
      refine ⟨k + 1,by go_num,by omega, ?_,(show Below _ _ _ from hbw).trans hb1,fun x hx => ?_⟩
      ·rw [take_one l k hlt,nuL_append];simpa [nuL,Hq.out] using ho1
      ·rw [take_one l k hlt] at hx
       rcases List.mem_append.1 hx with hx | hx
       ·exact hall.out x hx
       ·simp at hx;subst hx;exact Hk.out
     case measure=>simp [intOf];omega
   ·have hok:NuOk l:=nuOk_of (by omega) (by have:=hall.out;rwa [show k = l.length from by omega] at this)
    have he:l.take k = l:=List.take_of_length_le (by omega)
    rw [he] at ho
    have Hok:=hide_ hok
    clear hok he
    go_wp2
    go_ret2
    exact Keep.intro ⟨_,by rw [nuErr,if_pos Hok.out];rfl,by rw [nuB,if_pos Hok.out];exact ho,hbw⟩
def rns:Nat→List Nat→Option (List Int × List Nat)
 | 0,l=>some ([],l)
 | k + 1,l=>if (rd l).2 = 0∨4611686018427387905 < (rd l).1 then none else (rns k (rdRest l)).map fun r=>((((rd l).1:Int) - 1) :: r.1,r.2)
theorem OwnB.kept {B:Nat} {w w':World} {b:Value} {mm:List Nat} {row:Option Nat} (h:OwnB B w b mm) (hg:w.grownBy w' row) (hne:b.ownBlock = none∨b.ownBlock≠row):OwnB B w' b mm:=World.ownsRow.kept h hg hne
theorem rns_step {k:Nat} {l:List Nat} (h0:(rd l).2≠0) (h1:¬ 4611686018427387905 < (rd l).1):rns (k + 1) l = (rns k (rdRest l)).map fun r=>((((rd l).1:Int) - 1) :: r.1,r.2):=by
 rw [rns,if_neg (by omega)]
theorem rns_none {k:Nat} {l:List Nat} (h:(rd l).2 = 0∨4611686018427387905 < (rd l).1):rns (k + 1) l = none:=by rw [rns,if_pos h]
end Go.Proofs.YtdoeoncmhaihbaaGreat
namespace Go.Proofs.YtdoeoncmhaihbaaGreat
set_option maxRecDepth 100000
def sml (l:List Int):Bool:=l.all fun x=>decide (x≤4611686018427387904)
theorem rd_app {n:Nat} (hn:W64 n) (t:List Nat):rd (numL n ++ t) = (n,(numL n).length):=rd_yes (List.prefix_append _ _) hn
theorem rd2_ne {n:Nat} (hn:W64 n) (t:List Nat):(rd (numL n ++ t)).2≠0:=by
 rw [rd_app hn];show (numL n).length≠0;have:=numL_pos n;omega
theorem rdRest_app {n:Nat} (hn:W64 n) (t:List Nat):rdRest (numL n ++ t) = t:=by
 rw [rdRest,if_neg (rd2_ne hn t),rd_app hn];simp
theorem rns_nuL:∀ (l:List Int) (t:List Nat),(∀ x∈l, -1≤x∧x≤9223372036854775807)→rns l.length (nuL l ++ t) = if sml l then some (l,t) else none
 | [],t,_=>by simp [rns,nuL,sml]
 | x :: r,t,h=>by
  obtain ⟨h1,h2⟩:=h x (List.mem_cons_self ..)
  have hw:W64 (x + 1).toNat:=by unfold W64;omega
  have ih:=rns_nuL r t fun y hy=>h y (List.mem_cons_of_mem _ hy)
  have hp:=numL_pos (x + 1).toNat
  rw [List.length_cons,nuL,List.append_assoc]
  by_cases hx:x≤4611686018427387904
  ·rw [rns_step (rd2_ne hw _) (by rw [rd_app hw];simp;omega),rdRest_app hw,ih,rd_app hw]
   by_cases hs:sml r = true
   ·have:sml (x :: r) = true:=by simp only [sml,List.all_cons] at hs ⊢;simp [hx,hs]
    rw [if_pos hs,if_pos this]
    simp;omega
   ·have:¬ sml (x :: r) = true:=by simp only [sml,List.all_cons] at hs ⊢;simp [hx];simpa using hs
    rw [if_neg hs,if_neg this];rfl
  ·rw [rns_none (.inr (by rw [rd_app hw];simp;omega)),if_neg (by simp [sml];omega)]
structure RecD where
 k:Int
 i:Int
 v:Int
 x:Int
 t:List Nat
def N30 (n:Int):Prop := -1≤n∧n≤1073741824
instance (n:Int):Decidable (N30 n):=by unfold N30;exact inferInstance
def RecD.nums (r:RecD):List Int:=[r.k,r.i,r.v,r.x]
def RecD.Ok (r:RecD):Prop:=N30 r.k∧N30 r.i∧N30 r.v∧N30 r.x∧r.t.length≤1024
instance (r:RecD):Decidable r.Ok:=by unfold RecD.Ok;exact inferInstance
def RecD.pay (r:RecD):List Nat:=nuL r.nums ++ txL r.t
def RecD.bs (r:RecD):List Nat:=txL r.pay
theorem RecD.bound {r:RecD} (h:r.Ok):∀ x∈r.nums, -1≤x∧x≤9223372036854775807:=by
 obtain ⟨h1,h2,h3,h4,_⟩:=h
 unfold N30 at *
 intro x hx
 simp [RecD.nums] at hx
 rcases hx with rfl|rfl|rfl|rfl <;> omega
theorem RecD.sml {r:RecD} (h:r.Ok):sml r.nums = true:=by
 obtain ⟨h1,h2,h3,h4,_⟩:=h
 unfold N30 at *
 simp [RecD.nums,Go.Proofs.YtdoeoncmhaihbaaGreat.sml];omega
def fst (b:List Nat):Option RecD :=
 if RtOk b then match rns 4 (rtL b) with
  | some ([k,i,v,x],s)=>if RtOk s then (let r:RecD:=⟨k,i,v,x,rtL s⟩;if r.Ok∧r.bs.isPrefixOf b = true then some r else none) else none
  | _=>none
 else none
def scanJ:Nat→List Nat→List RecD
 | 0,_ => []
 | f + 1,b=>match fst b with
  | some r=>r :: scanJ f (b.drop r.bs.length)
  | none => []
def recs (b:List Nat):List RecD:=scanJ b.length b
def RecD.zero:RecD:=⟨0,0,0,0, []⟩
theorem nuL_app:∀ l m:List Int,nuL (l ++ m) = nuL l ++ nuL m
 | [],m=>rfl
 | x :: l,m=>by rw [List.cons_append,nuL,nuL,nuL_app l m,List.append_assoc]
def Rdb (xs:List Int):Prop := ∀ x∈xs, -1≤x∧x≤4611686018427387904
theorem Rdb.sml {xs:List Int} (h:Rdb xs):sml xs = true:=by
 simp only [Go.Proofs.YtdoeoncmhaihbaaGreat.sml,List.all_eq_true,decide_eq_true_eq]
 exact fun x hx=>(h x hx).2
theorem rns_yes {xs:List Int} (h:Rdb xs) (s:List Nat):rns xs.length (nuL xs ++ s) = some (xs,s):=by
 rw [rns_nuL xs s fun x hx=>by have:=h x hx;omega,if_pos h.sml]
theorem rns_few {xs ys:List Int} (h:Rdb (xs ++ ys)) (s:List Nat):rns xs.length (nuL (xs ++ ys) ++ s) = some (xs,nuL ys ++ s):=by
 rw [nuL_app,List.append_assoc]
 exact rns_yes (fun x hx=>h x (List.mem_append_left _ hx)) _
theorem nuL_pos {xs:List Int} (h:xs ≠ []):nuL xs ≠ []:=by
 cases xs with
 | nil=>exact absurd rfl h
 | cons x r =>
  intro e
  have h1:=congrArg List.length e
  have h2:=numL_pos (x + 1).toNat
  rw [nuL,List.length_append,List.length_nil] at h1
  omega
theorem nuL_inj {xs ys:List Int} (hx:Rdb xs) (hy:Rdb ys) (h:nuL xs = nuL ys):xs = ys:=by
 rcases Nat.le_total xs.length ys.length with hl | hl
 ·have e:=rns_few (xs:=ys.take xs.length) (ys:=ys.drop xs.length) (by rw [List.take_append_drop];exact hy) []
  rw [List.take_append_drop, ← h,List.length_take,Nat.min_eq_left hl,rns_yes hx []] at e
  simp only [Option.some.injEq,Prod.mk.injEq,List.append_nil] at e
  by_cases hd:ys.drop xs.length = []
  ·rw [e.1];conv=>rhs;rw [← List.take_append_drop xs.length ys,hd,List.append_nil]
  ·exact absurd e.2.symm (nuL_pos hd)
 ·have e:=rns_few (xs:=xs.take ys.length) (ys:=xs.drop ys.length) (by rw [List.take_append_drop];exact hx) []
  rw [List.take_append_drop,h,List.length_take,Nat.min_eq_left hl,rns_yes hy []] at e
  simp only [Option.some.injEq,Prod.mk.injEq,List.append_nil] at e
  by_cases hd:xs.drop ys.length = []
  ·rw [e.1];conv=>lhs;rw [← List.take_append_drop ys.length xs,hd,List.append_nil]
  ·exact absurd e.2.symm (nuL_pos hd)
structure TxD where
 id:Int
 fee:Int
deriving DecidableEq
namespace TxD
def Right (t:TxD):Prop:=1≤t.id∧t.id≤1000000∧0≤t.fee∧t.fee≤1000
instance (t:TxD):Decidable t.Right:=by unfold Right;exact inferInstance
def nums (t:TxD):List Int:=[t.id,t.fee]
theorem Right.rdb {t:TxD} (h:t.Right):Rdb t.nums:=fun x hx=>by
 obtain ⟨h1,h2,h3,h4⟩:=h
 simp [nums] at hx
 rcases hx with rfl|rfl <;> omega
end TxD
def rdTx (b:List Nat):Option TxD:=match rns 2 b with
 | some ([i,f], [])=>if (⟨i,f⟩:TxD).Right then some ⟨i,f⟩ else none
 | _=>none
def txNums (l:List TxD):List Int:=(l.map TxD.nums).flatten
def lsNums (l:List TxD):List Int:=(l.length:Int) :: txNums l
def lsB (l:List TxD):List Nat:=nuL (lsNums l)
structure LsOk (l:List TxD):Prop where
 len:l.length≤3
 right:∀ t∈l,t.Right
 ids:(l.map TxD.id).Nodup
instance (l:List TxD):Decidable (LsOk l) :=
 decidable_of_iff (l.length≤3∧(∀ t∈l,t.Right)∧(l.map TxD.id).Nodup) ⟨fun ⟨a,b,c⟩=>⟨a,b,c⟩,fun ⟨a,b,c⟩=>⟨a,b,c⟩⟩
theorem txNums_len (l:List TxD):(txNums l).length = 2 * l.length:=by
 induction l with
 | nil=>rfl
 | cons t l ih=>simp only [txNums,List.map_cons,List.flatten_cons,List.length_append,List.length_cons,TxD.nums,List.length_nil] at ih ⊢;omega
theorem txNums_cons (t:TxD) (l:List TxD):txNums (t :: l) = t.id :: t.fee :: txNums l:=rfl
theorem txNums_inj:∀ {l m:List TxD},txNums l = txNums m→l = m
 | [], [],_=>rfl
 | [],t :: m,h=>by simp [txNums,TxD.nums] at h
 | t :: l, [],h=>by simp [txNums,TxD.nums] at h
 | t :: l,u :: m,h=>by
  rw [txNums_cons,txNums_cons] at h
  injection h with h1 h2
  injection h2 with h2 h3
  have:=txNums_inj h3
  subst this
  cases t;cases u;simp at h1 h2;subst h1 h2;rfl
theorem LsOk.rdb {l:List TxD} (h:LsOk l):Rdb (lsNums l):=by
 have hl:=h.len
 intro x hx
 rcases List.mem_cons.1 hx with rfl | hx
 ·omega
 ·unfold txNums at hx
  obtain ⟨y,hy,hxy⟩:=List.mem_flatten.1 hx
  obtain ⟨t,ht,rfl⟩:=List.mem_map.1 hy
  exact (h.right t ht).rdb x hxy
theorem lsB_inj {l m:List TxD} (hl:LsOk l) (hm:LsOk m) (h:lsB l = lsB m):l = m:=by
 have:=nuL_inj hl.rdb hm.rdb h
 injection this with _ h2
 exact txNums_inj h2
def IsLs (b:List Nat) (l:List TxD):Prop:=LsOk l∧b = lsB l
theorem IsLs.one {b:List Nat} {l m:List TxD} (h:IsLs b l) (k:IsLs b m):l = m:=lsB_inj h.1 k.1 (h.2.symm.trans k.2)
end Go.Proofs.YtdoeoncmhaihbaaGreat
namespace Go.Proofs.YtdoeoncmhaihbaaGreat
set_option maxRecDepth 100000
open Go.RowKit Go.ChangeShapes Go.WideShapes Go.ChangeAt
theorem Tryz.own_:ownKnob Tryz.prog.godebug = none:=by kernel_rfl
theorem Tryz.laid_:laidOutB Tryz.prog = true:=by kernel_rfl
theorem trodAll_below {H:Type} {enc:TypeId × Value→H} {P:Program} (hl:laidOutB P = true) {W W':World} (hb:Below W.heap.size W W') :
  ∀ (ts:List TypeId) (vs:List Value) (ds:List (DataW H)) (ps:List MemPlace),(∀ t∈ts,P.readableRec t = true∧t < P.types.size)→(∀ x∈ps,x.block < W.heap.size) →
   DataW.TrodAll enc P W 0 (fun _=>true) true ts vs ds ps→DataW.TrodAll enc P W' 0 (fun b=>decide (b < W.heap.size)) true ts vs ds ps
 | [], [], [],_,_,_,h=>h
 | [], [],_ :: _,_,_,_,h=>h.elim
 | [],_ :: _,_,_,_,_,h=>by cases ‹List (DataW H)› <;> exact h.elim
 | _ :: _, [],_,_,_,_,h=>by cases ‹List (DataW H)› <;> exact h.elim
 | _ :: _,_ :: _, [],_,_,_,h=>h.elim
 | t :: ts,v :: vs,d :: ds,ps,hr,hlt,h=>by
  obtain ⟨p,q,h1,h2,rfl⟩:=h
  exact ⟨p,q,Below.trod hl (hr t (List.mem_cons_self ..)).1 (hr t (List.mem_cons_self ..)).2 h1 hb (fun x hx=>hlt x (List.mem_append_left _ hx)),
   trodAll_below hl hb ts vs ds q (fun t ht=>hr t (List.mem_cons_of_mem _ ht)) (fun x hx=>hlt x (List.mem_append_right _ hx)) h2,rfl⟩
theorem law_lifted {f:FuncId} {fn:Func} {s:ChangeSpec} {conds:List PathCond} (hfn:Tryz.prog.funcs[f]? = some fn) (noInit:Tryz.prog.inits.idxOf? f = none) (hvars:s.vars = [])
  (hspec:∀ (H:Type) (ds:List (DataW H)),ds.length = fn.params.size→s.fn H ds = { results:=[.lit (.bool true)],args:=ds }) (hrt:fn.resultTypes.toList = [4]) (hrs:fn.resultTypes.size = 1)
  (hread:∀ t∈fn.params.toList,Tryz.prog.readableRec t = true∧t < Tryz.prog.types.size) (os:Os) (started:os.Started) (H:Type) (enc:TypeId × Value→H)
  (witness:∃ (w:World) (tape:Tape) (i:Input),w.os = os∧(w.forCall tape i).Shaped Tryz.checked.prog∧i.vars = []∧Input.okWide Tryz.checked.prog (w.forCall tape i) .any w.heap.size f i ∧
   s.pre6 enc Tryz.checked.prog fn conds false (w.forCall tape i).memory i.args∧({}:Assume).holds Tryz.checked.prog (lone (Frame.enter Tryz.checked.prog f i.args .normal) [] (w.forCall tape i)))
  (law:∀ (W:World) (base:Nat) (args:Array Value) (ds:List (DataW H)) (p:List MemPlace),
   (∀ (j:Nat) t v,fn.params[j]? = some t→args[j]? = some v→Value.okWide Tryz.prog W .any base t v) →
   DataW.TrodAll enc Tryz.prog W 0 (fun _=>true) true fn.params.toList args.toList ds p →
   (DataW.weightsEach Tryz.prog fn.params.toList ds).all (· ≤ reachBytes) = true →
   conds.all (PathCond.test Tryz.prog ⟨fn.params.toList,ds, [], []⟩) = true →
   Calls Tryz.prog f args W fun e W'=>e = .returned (.bool true)∧Ext W W') :
  ReturnsInHanded {} Tryz.checked os f .any (s.pre6 enc Tryz.prog fn conds false) (s.post enc Tryz.prog fn false true false false):=by
 refine returnsInHanded_of_change_sized (C:=Tryz.checked) Tryz.own_ started noInit hfn witness ?_
 intro W base args ds gs before hval hW hcnd hsz _
 have hW':=hW
 obtain ⟨p,q,hA,hV,rfl,_,_⟩:=hW
 rw [hvars] at hV
 obtain ⟨rfl,rfl⟩:=trodVars_none hV
 have hvt:s.plain.varTypes Tryz.checked.prog = []:=by simp [DataSpec.varTypes,ChangeSpec.plain,hvars]
 rw [hvt] at hsz hcnd
 simp only [List.append_nil] at hW' hsz
 have hlen:ds.length = fn.params.size:=by
  have key:∀ (ts:List TypeId) (vs:List Value) (ds:List (DataW H)) (ps:List MemPlace),DataW.TrodAll enc Tryz.prog W 0 (fun _=>true) true ts vs ds ps→ds.length = ts.length:=by
   intro ts
   induction ts with
   | nil=>intro vs ds ps h;cases vs <;> cases ds <;> first | rfl | exact h.elim
   | cons t ts ih =>
    intro vs ds ps h
    cases vs with
    | nil=>exact h.elim
    | cons v vs =>
     cases ds with
     | nil=>exact h.elim
     | cons d ds=>obtain ⟨_,q,_,h2,_⟩:=h;simp [ih vs ds q h2]
  have:=key _ _ _ _ hA;simpa using this
 refine (law W base args ds p hval hA hsz hcnd).mono fun e W' ⟨he,hb⟩ => ?_
 subst he
 refine ⟨_,rfl,ds, [],p, [],p, [],hW', ?_, ?_, ?_,Below.frame hb _,fun h=>by cases h⟩
 ·rw [List.append_nil,hspec H ds hlen,hrt,hrs]
  exact trodAll_mk1 (shut_bool Tryz.underlying4 _)
 ·rw [List.append_nil,hspec H ds hlen]
  exact trodAll_below Tryz.laid_ hb _ _ _ _ hread (fun x hx=>hW'.lt x hx) hA
 ·rw [List.append_nil,hspec H ds hlen,hvars];rfl
section
variable {H:Type} {enc:TypeId × Value→H} {W:World} {base:Nat} {v:Value} {d:DataW H} {ps:List MemPlace}
end
end Go.Proofs.YtdoeoncmhaihbaaGreat
namespace Go.Proofs.YtdoeoncmhaihbaaGreat
set_option maxRecDepth 100000
open Go.RowKit Go.ChangeShapes Go.WideShapes Go.ChangeAt
section
variable {H:Type} {enc:TypeId × Value→H} {P:Program} {W:World} {v:Value}
def Fits (P:Program) (t:TypeId) (d:DataW H):Prop := ∀ n∈d.weights P t,n≤reachBytes
theorem fits_arg {ts:List TypeId} {ds:List (DataW H)} (hsz:(DataW.weightsEach P ts ds).all (· ≤ reachBytes) = true) {j:Nat} {t:TypeId} {d:DataW H} (ht:ts[j]? = some t) (hd:ds[j]? = some d):Fits P t d :=
 fun n hn=>by simpa using List.all_eq_true.1 hsz _ (DataW.weights_mem_each ht hd n hn)
theorem weightsAll_mem {e:TypeId}:∀ {l:List (DataW H)} {d:DataW H},d∈l→∀ n∈d.weights P e,n∈DataW.weightsAll P e l
 | [],d,h,_,_=>by simp at h
 | d' :: l,d,h,n,hn=>by
  rw [DataW.weightsAll]
  rcases List.mem_cons.1 h with rfl | h
  ·exact List.mem_append_left _ hn
  ·exact List.mem_append_right _ (weightsAll_mem h n hn)
theorem Fits.elem {t e:TypeId} {elems spare:List (DataW H)} (hu:P.underlying t = some (.slice e)) (h:Fits P t (.slice elems spare)) {d:DataW H} (hd:d∈elems):Fits P e d:=fun n hn =>
 h n (by simp only [DataW.weights,hu];exact List.mem_cons_of_mem _ (List.mem_append_left _ (weightsAll_mem hd n hn)))
theorem Fits.slice {t e:TypeId} {elems spare:List (DataW H)} (hu:P.underlying t = some (.slice e)) (h:Fits P t (.slice elems spare)):(elems.length + spare.length) * P.bytesOf e≤reachBytes :=
 h _ (by simp only [DataW.weights,hu];exact List.mem_cons_self ..)
theorem Fits.part {t:TypeId} {fs:Array Field} {parts:List (DataW H)} (hu:P.underlying t = some (.struct fs)) (h:Fits P t (.agg parts)) {j:Nat} {f:Field} {d:DataW H} (hf:fs[j]? = some f) (hd:parts[j]? = some d):Fits P f.type d:=fun n hn =>
 h n (by simp only [DataW.weights,hu];exact DataW.weights_mem_each (by simpa using ⟨f,hf,rfl⟩) hd n hn)
theorem rd_recs {α:Type} [Inhabited α] {R:World→List Value → α→Prop} {t e:TypeId} {n fuel:Nat} {d:DataW H} {pl:List MemPlace} (hu:P.underlying t = some (.slice e)) (hc:P.cellsOf e = n)
  (hone:∀ (fuel:Nat) (cs:List Value) (y:DataW H × List MemPlace),cs.length = n→DataW.trod enc P W 0 (fun _=>true) true fuel e cs = some y→Fits P e y.1→∃ x,R W cs x)
  (hf:DataW.trod enc P W 0 (fun _=>true) true fuel t [v] = some (d,pl)) (hw:Fits P t d):∃ l,Recs n R W v l∧l.length * P.bytesOf e≤reachBytes:=by
 rcases Deep.open_slice hu hf with ⟨h1,_⟩ | ⟨a,len,cap,m,k,D,Pl,h1,_,hlc,hcm,hm,hx,hr⟩
 ·injection h1 with h1
  subst h1
  exact ⟨[],⟨[],⟨none,0,rfl,by simp,by simp [maxLen],fun k row h=>by simp at h⟩,rfl,fun k row d h=>by simp at h⟩,by simp⟩
 ·injection h1 with h1
  subst h1
  have hd:d = .slice ((List.range len).map D) ((List.range (m - len)).map fun j=>D (len + j)):=congrArg Prod.fst hx
  subst hd
  simp only [if_true] at hm
  subst hm
  obtain ⟨f,hfx⟩:=Deep.choose_lt (α:=List Value × α) (n:=len) (p:=fun i q=>q.1.length = n∧RowAt W (a.add (i * n)) q.1∧R W q.1 q.2) (fun i hi=>by
   obtain ⟨cs',g1,g2⟩:=hr i (by omega)
   rw [hc] at g1
   obtain ⟨_,hlen,hcell⟩:=World.cells?_some g1
   obtain ⟨x,hx⟩:=hone k cs' _ hlen g2 (hw.elem hu (List.mem_map.2 ⟨i,List.mem_range.2 hi,rfl⟩))
   exact ⟨(cs',x),hlen,fun j u hj=>by
    have hjl:j < n:=by have h2:j < cs'.length:=(List.getElem?_eq_some_iff.1 hj).1;omega
    show W.cell? ((a.add (i * n)).add j) = some u
    rw [hcell j hjl];exact hj,hx⟩)
  have hs:=hw.slice hu
  simp only [List.length_map,List.length_range] at hs
  refine ⟨(List.range len).map fun i=>(f i).2,⟨(List.range len).map fun i=>(f i).1,⟨some a,m,by simp,by simpa using hlc,hcm,fun k row hk => ?_⟩,by simp,fun k row d hk hd => ?_⟩, ?_⟩
  ·obtain ⟨hk',rfl⟩:=List.getElem?_eq_some_iff.1 hk
   simp at hk'
   obtain ⟨g1,g2,_⟩:=hfx k (by simpa using hk')
   simp only [List.getElem_map,List.getElem_range]
   exact ⟨g1,a,rfl,g2⟩
  ·obtain ⟨hk',rfl⟩:=List.getElem?_eq_some_iff.1 hk
   obtain ⟨_,rfl⟩:=List.getElem?_eq_some_iff.1 hd
   simp only [List.length_map,List.length_range] at hk'
   simp only [List.getElem_map,List.getElem_range]
   exact (hfx k hk').2.2
  ·simp only [List.length_map,List.length_range]
   exact Nat.le_trans (Nat.mul_le_mul_right _ (Nat.le_add_right _ _)) hs
def BytOk (w:World) (row:List Value) (d:List Nat):Prop:=BytR w row d∧(∀ x∈d,x < 256)∧d.length≤140737488351232
theorem BytOk.stays:Stays BytOk:=fun _ _ _ _ h he=>⟨BytR.stays _ _ _ _ h.1 he,h.2⟩
end
end Go.Proofs.YtdoeoncmhaihbaaGreat
namespace Go.Proofs.YtdoeoncmhaihbaaGreat
set_option maxRecDepth 100000
open Go.RowKit Go.ChangeShapes Go.WideShapes Go.ChangeAt
section
variable {H:Type} {enc:TypeId × Value→H} {W:World} {base:Nat} {v:Value} {d:DataW H} {ps:List MemPlace}
end
end Go.Proofs.YtdoeoncmhaihbaaGreat
