/- The contracts of tag.Key, tag.Of and tag.Right: numbers of 64 bits that go round. · Marks part: what unlike keys, an unlike byte and an unlike end do to a mark. · Messages, their bytes and their marks, as plain mathematics. No program. · Which messages can be, kind by kind. No program. · A core's messages as messages of layer 12: what can be said is Right, what is Right and of a vote's kind can be heard. No program. · Rising lists of numbers, as plain mathematics. No program. · The contracts of the library on slices.Sorted, Sort and Compact, laid over this program. · Numbers sorted, each once. · A list of numbers, once more. · Maps as they stand in memory. · Maps by kind and view, maps by node; the object that is a tally: what it holds. · A message, among a law's parameters; a message's cells, its parts, an array of its numbers. · Steps at structs that lie within others: fields, parts, records of a slice. -/
import Derived.Test.YtdoeoncmhaihbaaGreatFA
import Derived.Test.YtdoeoncmhaihbaaGreatBKA
import Derived.Test.YtdoeoncmhaihbaaGreatPk05
import Derived.Shelf.SlIterI.Nil
import Derived.Shelf.SortM.Plain
import Derived.Shelf.SortM.SortNone
import Derived.Shelf.SlicesG.CompactI
import Derived.Test.YtdoeoncmhaihbaaGreatPk03
import Derived.Test.YtdoeoncmhaihbaaGreatFB
import Derived.Maps.RangeWalk
import Derived.Maps.OwnSet
import Derived.Test.YtdoeoncmhaihbaaGreatSTK
import Derived.DeepKeys3
import Derived.ChangeKeysEq
namespace Go.Proofs.YtdoeoncmhaihbaaGreat
set_option maxRecDepth 100000
open Go.RowKit
def keyB (n:Int):BitVec 64:=(BitVec.ofInt 64 n + 1#64) * 11400714819323198485#64
def stepB (h:BitVec 64) (c:Nat):BitVec 64:=(h ^^^ BitVec.ofNat 64 c) * 1099511628211#64
def finB (h:BitVec 64):BitVec 64:=h ^^^ (h >>> 29)
def markB (key:BitVec 64) (l:List Nat):BitVec 64:=finB (l.foldl stepB (key ^^^ 14695981039346656037#64))
def Parts (w:World) (v:Value) (ls:List (List Nat)):Prop := ∃ vs:List Value,Sl w v vs∧vs.length = ls.length∧∀ (k:Nat) (u:Value) (l:List Nat),vs[k]? = some u→ls[k]? = some l→Byt w u l
theorem Parts.ext {w w':World} {v:Value} {ls:List (List Nat)} (h:Parts w v ls) (he:Ext w w'):Parts w' v ls:=by
 obtain ⟨vs,h1,h2,h3⟩:=h
 exact ⟨vs,h1.ext he,h2,fun k u l hu hl=>(h3 k u l hu hl).ext he⟩
theorem Parts.nil (w:World):Parts w (.slice none 0 0) []:=⟨[],Sl.nil w,rfl,fun k u l h=>by simp at h⟩
end Go.Proofs.YtdoeoncmhaihbaaGreat
namespace Go.Proofs.YtdoeoncmhaihbaaGreat
set_option maxRecDepth 100000
structure MsgD where
 kd:Int
 fm:Int
 ix:Int
 vw:Int
 vl:Int
 pr:Int
 tx:TxD
 bk:BlkD
def TxD.zero:TxD:=⟨0,0⟩
instance:DecidableEq BlkD:=fun a b=>decidable_of_iff (a.same b = true) BlkD.same_iff
theorem MsgD.eq_iff {a b:MsgD}:a = b ↔ [a.kd,a.fm,a.ix,a.vw,a.vl,a.pr] = [b.kd,b.fm,b.ix,b.vw,b.vl,b.pr]∧a.tx = b.tx∧a.bk = b.bk:=by
 constructor
 ·intro h;rw [h];exact ⟨rfl,rfl,rfl⟩
 ·rintro ⟨h1,h2,h3⟩
  obtain ⟨k,f,i,v,x,p,t,y⟩:=a
  obtain ⟨k',f',i',v',x',p',t',y'⟩:=b
  simp only [List.cons.injEq,and_true] at h1 h2 h3
  obtain ⟨rfl,rfl,rfl,rfl,rfl,rfl⟩:=h1
  rw [h2,h3]
instance:DecidableEq MsgD:=fun _ _=>decidable_of_iff _ MsgD.eq_iff.symm
def MsgD.zero:MsgD:=⟨0,0,0,0,0,0,TxD.zero,BlkD.zero⟩
def VOk (k v:Int):Prop:=(v = -1∧(k = 4∨k = 5))∨v = 0∨NmOk v
instance (k v:Int):Decidable (VOk k v):=by unfold VOk;infer_instance
def In (a b n:Int):Prop:=a≤n∧n≤b
instance (a b n:Int):Decidable (In a b n):=by unfold In;infer_instance
namespace MsgD
def Right (d:MsgD):Prop:=In 0 6 d.fm∧In 0 6 d.kd∧(if d.kd = 0 then d.tx.Right else d.tx = TxD.zero)∧(if d.kd = 1 then d.bk.Right else d.bk = BlkD.zero)∧(if 3≤d.kd then In 0 1000 d.ix else d.ix = 0) ∧
 (if 3≤d.kd∧d.kd≤5 then In 0 1000 d.vw else d.vw = 0)∧(if 2≤d.kd then VOk d.kd d.vl else d.vl = 0)∧(if d.kd = 3 then -1≤d.pr∧d.pr < d.vw else d.pr = 0)
instance (d:MsgD):Decidable d.Right:=by unfold Right;infer_instance
def nums (d:MsgD):List Int:=[d.kd,d.fm,d.ix,d.vw,d.vl,d.pr]
def more (d:MsgD):List Int:=if d.kd = 0 then d.tx.nums else if d.kd = 1 then d.bk.nums else []
def body (d:MsgD):List Nat:=nuL (d.nums ++ d.more)
def mark (d:MsgD):BitVec 64:=markB (keyB d.fm) d.body
def bytes (d:MsgD):List Nat:=numL d.mark.toNat ++ d.body
theorem nm_le {n:Int} (h:NmOk n):0≤n∧n≤268435455:=by obtain ⟨h1,h2,h3,h4⟩:=h;omega
theorem vOk_le {k n:Int} (h:VOk k n) : -1≤n∧n≤268435455:=by
 rcases h with h | h | h
 ·omega
 ·omega
 ·have:=nm_le h;omega
theorem Right.bound {d:MsgD} (h:d.Right):In 0 6 d.kd∧In 0 6 d.fm∧In 0 1000 d.ix∧In 0 1000 d.vw∧(-1≤d.vl∧d.vl≤268435455)∧(-1≤d.pr∧d.pr≤1000):=by
 obtain ⟨h1,h2,_,_,h5,h6,h7,h8⟩:=h
 have a5:In 0 1000 d.ix:=by
  split at h5
  ·exact h5
  ·rw [h5];decide
 have a6:In 0 1000 d.vw:=by
  split at h6
  ·exact h6
  ·rw [h6];decide
 have a7 : -1≤d.vl∧d.vl≤268435455:=by
  split at h7
  ·exact vOk_le h7
  ·omega
 refine ⟨h2,h1,a5,a6,a7, ?_⟩
 unfold In at a6
 split at h8 <;> omega
theorem Right.rdb6 {d:MsgD} (h:d.Right):Rdb d.nums:=by
 obtain ⟨h1,h2,h3,h4,h5,h6⟩:=h.bound
 unfold In at *
 intro x hx
 simp only [nums,List.mem_cons,List.not_mem_nil,or_false] at hx
 rcases hx with rfl|rfl|rfl|rfl|rfl|rfl <;> omega
theorem Right.rdbMore {d:MsgD} (h:d.Right):Rdb d.more:=by
 obtain ⟨_,_,h3,h4,_⟩:=h
 unfold more
 split
 ·rename_i hk;rw [if_pos hk] at h3;exact h3.rdb
 ·split
  ·rename_i hk;rw [if_pos hk] at h4;exact h4.rdb
  ·intro x hx;simp at hx
theorem Right.rdb {d:MsgD} (h:d.Right):Rdb (d.nums ++ d.more):=fun x hx=>by
 rcases List.mem_append.1 hx with hx | hx
 ·exact h.rdb6 x hx
 ·exact h.rdbMore x hx
theorem mark_w64 (d:MsgD):W64 d.mark.toNat:=d.mark.isLt
theorem all_inj {a b:MsgD} (ha:a.Right) (hb:b.Right) (h:a.nums ++ a.more = b.nums ++ b.more):a = b:=by
 obtain ⟨_,_,a3,a4,_⟩:=ha
 obtain ⟨_,_,b3,b4,_⟩:=hb
 obtain ⟨k,f,i,v,x,p,t,y⟩:=a
 obtain ⟨k',f',i',v',x',p',t',y'⟩:=b
 simp only [nums,List.cons_append,List.nil_append,List.cons.injEq] at h
 obtain ⟨rfl,rfl,rfl,rfl,rfl,rfl,h⟩:=h
 simp only [more] at h a3 a4 b3 b4
 by_cases h0:k = 0
 ·have h1:k≠1:=by omega
  rw [if_neg h1] at a4 b4
  rw [if_pos h0,if_pos h0] at h
  simp only [TxD.nums,List.cons.injEq,and_true] at h
  obtain ⟨e1,e2⟩:=h
  cases t;cases t'
  simp only at e1 e2
  rw [e1,e2,a4,b4]
 ·rw [if_neg h0] at a3 b3
  rw [if_neg h0,if_neg h0] at h
  by_cases h1:k = 1
  ·rw [if_pos h1,if_pos h1] at h
   rw [BlkD.nums_inj h,a3,b3]
  ·rw [if_neg h1] at a4 b4
   rw [a3,b3,a4,b4]
theorem body_inj {a b:MsgD} (ha:a.Right) (hb:b.Right) (h:a.body = b.body):a = b:=all_inj ha hb (nuL_inj ha.rdb hb.rdb h)
theorem body_of_bytes {a b:MsgD} (h:a.bytes = b.bytes):a.body = b.body:=by
 have h1:=congrArg rdRest h
 unfold bytes at h1
 rwa [rdRest_app a.mark_w64,rdRest_app b.mark_w64] at h1
theorem bytes_inj {a b:MsgD} (ha:a.Right) (hb:b.Right):a.bytes = b.bytes ↔ a = b:=⟨fun h=>body_inj ha hb (body_of_bytes h),fun h=>by rw [h]⟩
end MsgD
def IsMsg (b:List Nat) (x:MsgD):Prop:=x.Right∧b = x.bytes
theorem IsMsg.one {b:List Nat} {x y:MsgD} (h:IsMsg b x) (k:IsMsg b y):x = y:=(MsgD.bytes_inj h.1 k.1).1 (h.2.symm.trans k.2)
def lE (s:List Nat):Nat:=if s = [] then 0 else 121
def frB (b:List Nat):MsgD × Nat:=match rns 6 b with
 | some ([k,f,i,v,x,p],s)=>if k = 0 then (⟨k,f,i,v,x,p,tOr (rdTx s),BlkD.zero⟩,oE (rdTx s)) else if k = 1 then (⟨k,f,i,v,x,p,TxD.zero,bOr (rdBlk s)⟩,obE (rdBlk s)) else (⟨k,f,i,v,x,p,TxD.zero,BlkD.zero⟩,lE s)
 | _=>(MsgD.zero,11)
def MarkOk (b:List Nat):Prop:=markB (keyB (frB (rdRest b)).1.fm) (rdRest b) = BitVec.ofNat 64 (rd b).1
instance (b:List Nat):Decidable (MarkOk b):=by unfold MarkOk;infer_instance
section
variable {d:MsgD}
def NV (n:Int):Prop:=n = 0∨NmOk n
instance (n:Int):Decidable (NV n):=by unfold NV;infer_instance
def Bad (d:MsgD):Prop:=(d.kd≠0∧d.tx≠TxD.zero)∨(d.kd≠1∧d.bk≠BlkD.zero)∨(d.kd≠3∧d.pr≠0)
instance (d:MsgD):Decidable (Bad d):=by unfold Bad;infer_instance
theorem good_tx (h:¬ Bad d) (hk:d.kd≠0):d.tx = TxD.zero:=by
 by_cases e:d.tx = TxD.zero
 ·exact e
 ·exact absurd (.inl ⟨hk,e⟩) h
theorem good_bk (h:¬ Bad d) (hk:d.kd≠1):d.bk = BlkD.zero:=by
 by_cases e:d.bk = BlkD.zero
 ·exact e
 ·exact absurd (.inr (.inl ⟨hk,e⟩)) h
theorem good_pr (h:¬ Bad d) (hk:d.kd≠3):d.pr = 0:=by
 by_cases e:d.pr = 0
 ·exact e
 ·exact absurd (.inr (.inr ⟨hk,e⟩)) h
theorem ref_0 (hk:d.kd = 0) (hf:In 0 6 d.fm) (hg:¬ Bad d) (hi:d.ix = 0) (hv:d.vw = 0) (hl:d.vl = 0):decide d.Right = decide d.tx.Right:=by
 apply decide_eq_decide.2
 simp only [MsgD.Right,hf,hk,show In 0 6 0 from by decide,good_bk hg (by omega),good_pr hg (by omega),hi,hv,hl]
 simp
theorem ref_1 (hk:d.kd = 1) (hf:In 0 6 d.fm) (hg:¬ Bad d) (hi:d.ix = 0) (hv:d.vw = 0) (hl:d.vl = 0):decide d.Right = decide d.bk.Right:=by
 apply decide_eq_decide.2
 simp only [MsgD.Right,hf,hk,show In 0 6 1 from by decide,good_tx hg (by omega),good_pr hg (by omega),hi,hv,hl]
 simp
theorem vOk_nv {k v:Int} (hk:k≠4∧k≠5):VOk k v ↔ NV v:=⟨fun h=>h.elim (fun h=>by omega) (fun h=>h),fun h=>.inr h⟩
theorem vOk_nv' {k v:Int} (hk:k = 4∨k = 5):VOk k v ↔ v = -1∨NV v:=⟨fun h=>h.elim (fun h=>.inl h.1) .inr,fun h=>h.elim (fun h=>.inl ⟨h,hk⟩) .inr⟩
theorem ref_2 (hk:d.kd = 2) (hf:In 0 6 d.fm) (hg:¬ Bad d) (hi:d.ix = 0) (hv:d.vw = 0):decide d.Right = decide (NV d.vl):=by
 apply decide_eq_decide.2
 simp only [MsgD.Right,hf,hk,show In 0 6 2 from by decide,good_tx hg (by omega),good_bk hg (by omega),good_pr hg (by omega),hi,hv]
 simpa using vOk_nv (by omega)
theorem ref_3 (hk:d.kd = 3) (hf:In 0 6 d.fm) (hg:¬ Bad d) (hi:In 0 1000 d.ix) (hv:In 0 1000 d.vw) (hn:NV d.vl) (hp : -1≤d.pr):decide d.Right = decide (d.pr < d.vw):=by
 apply decide_eq_decide.2
 simp only [MsgD.Right,hf,hk,show In 0 6 3 from by decide,good_tx hg (by omega),good_bk hg (by omega),hi,hv,(vOk_nv (k:=3) (by omega)).2 hn,hp]
 simp
theorem ref_45 (hk:d.kd = 4∨d.kd = 5) (hf:In 0 6 d.fm) (hg:¬ Bad d) (hi:In 0 1000 d.ix) (hv:In 0 1000 d.vw):d.Right ↔ d.vl = -1∨NV d.vl:=by
 have h0:In 0 6 d.kd:=by unfold In;omega
 simp only [MsgD.Right,hf,h0,good_tx hg (by omega),good_bk hg (by omega),good_pr hg (by omega),hi,hv]
 have e0:¬ d.kd = 0:=by omega
 have e1:¬ d.kd = 1:=by omega
 have e2:2≤d.kd:=by omega
 have e3:3≤d.kd:=by omega
 have e5:d.kd≤5:=by omega
 have e6:¬ d.kd = 3:=by omega
 simpa [e0,e1,e2,e3,e5,e6] using vOk_nv' hk
theorem ref_6 (hk:d.kd = 6) (hf:In 0 6 d.fm) (hg:¬ Bad d) (hi:In 0 1000 d.ix) (hv:d.vw = 0):decide d.Right = decide (NV d.vl):=by
 apply decide_eq_decide.2
 simp only [MsgD.Right,hf,hk,show In 0 6 6 from by decide,good_tx hg (by omega),good_bk hg (by omega),good_pr hg (by omega),hi,hv]
 simpa using vOk_nv (by omega)
theorem MsgD.Right.fm (h:d.Right):In 0 6 d.fm:=h.1
theorem MsgD.Right.kd6 (h:d.Right):In 0 6 d.kd:=h.2.1
theorem MsgD.Right.txNo (h:d.Right) (hk:d.kd≠0):d.tx = TxD.zero:=by have:=h.2.2.1;rwa [if_neg hk] at this
theorem MsgD.Right.bkNo (h:d.Right) (hk:d.kd≠1):d.bk = BlkD.zero:=by have:=h.2.2.2.1;rwa [if_neg hk] at this
theorem MsgD.Right.ixOk (h:d.Right) (hk:3≤d.kd):In 0 1000 d.ix:=by have:=h.2.2.2.2.1;rwa [if_pos hk] at this
theorem MsgD.Right.ixNo (h:d.Right) (hk:¬ 3≤d.kd):d.ix = 0:=by have:=h.2.2.2.2.1;rwa [if_neg hk] at this
theorem MsgD.Right.vwOk (h:d.Right) (hk:3≤d.kd∧d.kd≤5):In 0 1000 d.vw:=by have:=h.2.2.2.2.2.1;rwa [if_pos hk] at this
theorem MsgD.Right.vwNo (h:d.Right) (hk:¬ (3≤d.kd∧d.kd≤5)):d.vw = 0:=by have:=h.2.2.2.2.2.1;rwa [if_neg hk] at this
theorem MsgD.Right.vlOk (h:d.Right) (hk:2≤d.kd):VOk d.kd d.vl:=by have:=h.2.2.2.2.2.2.1;rwa [if_pos hk] at this
theorem MsgD.Right.vlNo (h:d.Right) (hk:¬ 2≤d.kd):d.vl = 0:=by have:=h.2.2.2.2.2.2.1;rwa [if_neg hk] at this
theorem MsgD.Right.prOk (h:d.Right) (hk:d.kd = 3) : -1≤d.pr∧d.pr < d.vw:=by have:=h.2.2.2.2.2.2.2;rwa [if_pos hk] at this
theorem MsgD.Right.prNo (h:d.Right) (hk:d.kd≠3):d.pr = 0:=by have:=h.2.2.2.2.2.2.2;rwa [if_neg hk] at this
end
end Go.Proofs.YtdoeoncmhaihbaaGreat
namespace Go.Proofs.YtdoeoncmhaihbaaGreat
set_option maxRecDepth 100000
theorem NV.zero:NV 0 := .inl rfl
theorem NV.ge {x:Int} (h:NV x) : -1≤x:=by
 rcases h with h | h
 ·omega
 ·have:=MsgD.nm_le h;omega
def MsV.msg (m:MsV):MsgD:=⟨m.kd,m.fm,m.ix,m.vw,m.vl,m.pr,TxD.zero,BlkD.zero⟩
def MsgD.msv (d:MsgD):MsV:=⟨d.kd,d.fm,d.ix,d.vw,d.vl,d.pr⟩
theorem msv_msg (m:MsV):m.msg.msv = m:=rfl
theorem MsV.Ok.right {m:MsV} (h:m.Ok NV) (hf:0≤m.fm∧m.fm≤6):m.msg.Right:=by
 obtain ⟨hx,h⟩:=h
 unfold MsgD.Right MsV.msg
 simp only
 have hk:3≤m.kd∧m.kd≤6:=by rcases h with q | q | q <;> omega
 refine ⟨hf,⟨by omega,hk.2⟩, ?_, ?_, ?_, ?_, ?_, ?_⟩
 ·rw [if_neg (by omega)];trivial
 ·rw [if_neg (by omega)];trivial
 ·rw [if_pos hk.1];exact hx
 ·rcases h with q | q | q
  ·rw [if_pos (by omega)];exact q.2.2.1
  ·rw [if_pos (by omega)];exact q.2.2.1
  ·rw [if_neg (by omega)];exact q.2.2.1
 ·rw [if_pos (by omega)]
  rcases h with q | q | q
  ·exact .inr q.2.1
  ·rcases q.2.1 with e | e
   ·exact .inl ⟨e,q.1⟩
   ·exact .inr e
  ·exact .inr q.2.1
 ·rcases h with q | q | q
  ·rw [if_pos q.1];exact q.2.2.2
  ·rw [if_neg (by omega)];exact q.2.2.2
  ·rw [if_neg (by omega)];exact q.2.2.2
theorem MsgD.Right.heard {d:MsgD} (h:d.Right) (hk:3≤d.kd):d.msv.Ok NV∧d.msv.msg = d∧(0≤d.fm∧d.fm≤6):=by
 obtain ⟨k,f,i,v,x,p,t,b⟩:=d
 obtain ⟨h1,h2,h3,h4,h5,h6,h7,h8⟩:=h
 simp only at hk h1 h2 h3 h4 h5 h6 h7 h8
 rw [if_neg (by omega)] at h3 h4
 rw [if_pos hk] at h5
 rw [if_pos (by omega)] at h7
 refine ⟨⟨h5, ?_⟩,by unfold MsV.msg MsgD.msv;simp only;rw [h3,h4],h1⟩
 unfold MsgD.msv
 simp only
 have hk6:=h2.2
 by_cases e3:k = 3
 ·subst e3
  rw [if_pos (by decide)] at h6
  rw [if_pos rfl] at h8
  refine .inl ⟨rfl, ?_,h6,h8⟩
  rcases h7 with q | q
  ·omega
  ·exact q
 ·rw [if_neg e3] at h8
  by_cases e6:k = 6
  ·subst e6
   rw [if_neg (by decide)] at h6
   refine .inr (.inr ⟨rfl, ?_,h6,h8⟩)
   rcases h7 with q | q
   ·omega
   ·exact q
  ·rw [if_pos (by omega)] at h6
   refine .inr (.inl ⟨by omega, ?_,h6,h8⟩)
   rcases h7 with q | q
   ·exact .inl q.1
   ·exact .inr q
theorem nv_known:NV 65536∧NV 131072∧NV 196608:=by
 refine ⟨.inr ?_, .inr ?_, .inr ?_⟩ <;> decide
def ins:List Int→Int→List Int
 | [],n => [n]
 | x :: l,n=>if n < x then n :: x :: l else if n = x then x :: l else x :: ins l n
theorem mem_ins:∀ {l:List Int} {n x:Int},x∈ins l n ↔ x = n∨x∈l
 | [],n,x=>by simp [ins]
 | y :: l,n,x=>by
  unfold ins
  split
  ·simp
  ·split
   ·rename_i h;subst h;simp
   ·simp only [List.mem_cons,mem_ins (l:=l)]
    constructor
    ·rintro (h | h | h) <;> simp [h]
    ·rintro (h | h | h) <;> simp [h]
def Rise (l:List Int):Prop:=l.Pairwise (· < ·)
theorem Rise.ins:∀ {l:List Int} {n:Int},Rise l→Rise (ins l n)
 | [],n,_=>by simp [Rise,Go.Proofs.YtdoeoncmhaihbaaGreat.ins]
 | y :: l,n,h=>by
  unfold Rise at h
  obtain ⟨h1,h2⟩:=List.pairwise_cons.1 h
  unfold Go.Proofs.YtdoeoncmhaihbaaGreat.ins Rise
  split
  ·rename_i hlt
   refine List.pairwise_cons.2 ⟨fun x hx => ?_,h⟩
   rcases List.mem_cons.1 hx with rfl | hx
   ·exact hlt
   ·have:=h1 x hx;omega
  ·split
   ·exact h
   ·refine List.pairwise_cons.2 ⟨fun x hx => ?_,Rise.ins (l:=l) h2⟩
    rcases mem_ins.1 hx with rfl | hx
    ·omega
    ·exact h1 x hx
theorem Rise.eq:∀ {l m:List Int},Rise l→Rise m→(∀ x,x∈l ↔ x∈m)→l = m
 | [], [],_,_,_=>rfl
 | [],y :: m,_,_,h=>by have:=(h y).2 (List.mem_cons_self ..);simp at this
 | x :: l, [],_,_,h=>by have:=(h x).1 (List.mem_cons_self ..);simp at this
 | x :: l,y :: m,h1,h2,h=>by
  obtain ⟨a1,a2⟩:=List.pairwise_cons.1 h1
  obtain ⟨b1,b2⟩:=List.pairwise_cons.1 h2
  have hxy:x = y:=by
   have hx:=(h x).1 (List.mem_cons_self ..)
   have hy:=(h y).2 (List.mem_cons_self ..)
   rcases List.mem_cons.1 hx with e | hx
   ·exact e
   ·rcases List.mem_cons.1 hy with e | hy
    ·exact e.symm
    ·have:=b1 x hx;have:=a1 y hy;omega
  subst hxy
  rw [Rise.eq (l:=l) (m:=m) a2 b2 fun z => ?_]
  constructor
  ·intro hz
   have:=(h z).1 (List.mem_cons_of_mem _ hz)
   rcases List.mem_cons.1 this with e | e
   ·have:=a1 z hz;omega
   ·exact e
  ·intro hz
   have:=(h z).2 (List.mem_cons_of_mem _ hz)
   rcases List.mem_cons.1 this with e | e
   ·have:=b1 z hz;omega
   ·exact e
def rise (l:List Int):List Int:=l.foldl ins []
theorem mem_foldl_ins:∀ {l a:List Int} {x:Int},x∈l.foldl ins a ↔ x∈a∨x∈l
 | [],a,x=>by simp
 | y :: l,a,x=>by
  rw [List.foldl_cons,mem_foldl_ins (l:=l),mem_ins,List.mem_cons]
  constructor
  ·rintro ((h | h) | h) <;> simp [h]
  ·rintro (h | h | h) <;> simp [h]
theorem mem_rise {l:List Int} {x:Int}:x∈rise l ↔ x∈l:=by rw [rise,mem_foldl_ins];simp
theorem Rise.foldl:∀ {l a:List Int},Rise a→Rise (l.foldl Go.Proofs.YtdoeoncmhaihbaaGreat.ins a)
 | [],_,h=>h
 | _ :: l,_,h=>Rise.foldl (l:=l) h.ins
theorem rise_rise (l:List Int):Rise (rise l):=Rise.foldl List.Pairwise.nil
end Go.Proofs.YtdoeoncmhaihbaaGreat
namespace Go.Proofs.YtdoeoncmhaihbaaGreat
set_option maxRecDepth 100000
open Go.RowKit Go.Shelf
def Tryz.sortedL_ren:Go.Shelf.Ren:=⟨fun | 6=>75 | 8=>91 | 9=>87 | 11=>103 | 13=>102 | 12=>101 | 23=>115 | 24=>116 | 14=>106 | 15=>107 | 16=>108 | 17=>109 | 18=>110 | 19=>111 | 20=>112 | 21=>113 | 22=>114 | 25=>117 | 26=>118 | 27=>119 | 28=>120 | 29=>121 | 30=>122 | 31=>123 | n=>n,fun | 26=>3 | 28=>121 | 24=>22 | 0=>0 | 3=>3 | 37=>144 | 48=>156 | 50=>131 | 4=>4 | 40=>150 | 39=>149 | 45=>86 | 5=>5 | 9=>9 | 51=>158 | 55=>162 | 57=>164 | 58=>58 | 33=>73 | n=>n,fun | n=>n⟩
theorem Tryz.sortedL:Go.Proofs.SlLaysZI.n6 Tryz.prog Tryz.sortedL_ren:={
 mixed:=by kernel_rfl,
 f6:=⟨Tryz.f75.name,by decide,Tryz.func75.trans (congrArg some (by kernel_rfl))⟩,
 f8:=⟨Tryz.f91.name,by decide,Tryz.func91.trans (congrArg some (by kernel_rfl))⟩,
 f11:=⟨Tryz.f103.name,by decide,Tryz.func103.trans (congrArg some (by kernel_rfl))⟩,
 t0:=Tryz.underlying0,
 a0:=Tryz.isAgg0,
 z0:=Tryz.sizeOf0,
 v0:=Tryz.zeroValue0,
 t24:=Tryz.underlying22,
 a24:=Tryz.isAgg22,
 z24:=Tryz.sizeOf22,
 v24:=Tryz.zeroValue22,
 t26:=Tryz.underlying3,
 a26:=Tryz.isAgg3,
 z26:=Tryz.sizeOf3,
 v26:=Tryz.zeroValue3,
 t28:=Tryz.underlying121,
 a28:=Tryz.isAgg121,
 z28:=Tryz.sizeOf121,
 v28:=Tryz.zeroValue121,
 i26:=by kernel_rfl }
def Tryz.sortL_ren:Go.Shelf.Ren:=⟨fun | 5=>87 | 8=>102 | 7=>101 | 19=>115 | 20=>116 | 10=>106 | 11=>107 | 12=>108 | 13=>109 | 14=>110 | 15=>111 | 16=>112 | 17=>113 | 18=>114 | 30=>117 | 31=>118 | 32=>119 | 33=>120 | 34=>121 | 35=>122 | 40=>123 | n=>n,fun | 23=>22 | 25=>3 | 3=>3 | 32=>144 | 22=>22 | 0=>0 | 44=>156 | 46=>131 | 4=>4 | 36=>150 | 35=>149 | 41=>86 | 5=>5 | 9=>9 | 53=>158 | 57=>162 | 63=>164 | 64=>58 | n=>n,fun | n=>n⟩
theorem Tryz.sortL:Go.Proofs.SlLaysM.n5 Tryz.prog Tryz.sortL_ren:={
 mixed:=by kernel_rfl,
 f5:=⟨Tryz.f87.name,by decide,Tryz.func87.trans (congrArg some (by kernel_rfl))⟩,
 f7:=⟨Tryz.f101.name,by decide,Tryz.func101.trans (congrArg some (by kernel_rfl))⟩,
 f8:=Tryz.func102.trans (congrArg some (by kernel_rfl)),
 f10:=⟨Tryz.f106.name,by decide,Tryz.func106.trans (congrArg some (by kernel_rfl))⟩,
 f11:=⟨Tryz.f107.name,by decide,Tryz.func107.trans (congrArg some (by kernel_rfl))⟩,
 f12:=⟨Tryz.f108.name,by decide,Tryz.func108.trans (congrArg some (by kernel_rfl))⟩,
 f13:=⟨Tryz.f109.name,by decide,Tryz.func109.trans (congrArg some (by kernel_rfl))⟩,
 f14:=⟨Tryz.f110.name,by decide,Tryz.func110.trans (congrArg some (by kernel_rfl))⟩,
 f15:=⟨Tryz.f111.name,by decide,Tryz.func111.trans (congrArg some (by kernel_rfl))⟩,
 f16:=⟨Tryz.f112.name,by decide,Tryz.func112.trans (congrArg some (by kernel_rfl))⟩,
 f17:=⟨Tryz.f113.name,by decide,Tryz.func113.trans (congrArg some (by kernel_rfl))⟩,
 f18:=⟨Tryz.f114.name,by decide,Tryz.func114.trans (congrArg some (by kernel_rfl))⟩,
 f19:=Tryz.func115.trans (congrArg some (by kernel_rfl)),
 f20:=Tryz.func116.trans (congrArg some (by kernel_rfl)),
 f30:=⟨Tryz.f117.name,by decide,Tryz.func117.trans (congrArg some (by kernel_rfl))⟩,
 f31:=Tryz.func118.trans (congrArg some (by kernel_rfl)),
 f32:=Tryz.func119.trans (congrArg some (by kernel_rfl)),
 f33:=⟨Tryz.f120.name,by decide,Tryz.func120.trans (congrArg some (by kernel_rfl))⟩,
 f34:=⟨Tryz.f121.name,by decide,Tryz.func121.trans (congrArg some (by kernel_rfl))⟩,
 f35:=⟨Tryz.f122.name,by decide,Tryz.func122.trans (congrArg some (by kernel_rfl))⟩,
 f40:=⟨Tryz.f123.name,by decide,Tryz.func123.trans (congrArg some (by kernel_rfl))⟩,
 t0:=Tryz.underlying0,
 a0:=Tryz.isAgg0,
 z0:=Tryz.sizeOf0,
 v0:=Tryz.zeroValue0,
 t3:=Tryz.underlying3,
 a3:=Tryz.isAgg3,
 z3:=Tryz.sizeOf3,
 v3:=Tryz.zeroValue3,
 t4:=Tryz.underlying4,
 a4:=Tryz.isAgg4,
 z4:=Tryz.sizeOf4,
 v4:=Tryz.zeroValue4,
 t5:=Tryz.underlying5,
 a5:=Tryz.isAgg5,
 z5:=Tryz.sizeOf5,
 v5:=Tryz.zeroValue5,
 t9:=Tryz.underlying9,
 a9:=Tryz.isAgg9,
 z9:=Tryz.sizeOf9,
 v9:=Tryz.zeroValue9,
 t22:=Tryz.underlying22,
 a22:=Tryz.isAgg22,
 z22:=Tryz.sizeOf22,
 v22:=Tryz.zeroValue22,
 t23:=Tryz.underlying22,
 a23:=Tryz.isAgg22,
 z23:=Tryz.sizeOf22,
 v23:=Tryz.zeroValue22,
 t25:=Tryz.underlying3,
 a25:=Tryz.isAgg3,
 z25:=Tryz.sizeOf3,
 v25:=Tryz.zeroValue3,
 t32:=Tryz.underlying144,
 a32:=Tryz.isAgg144,
 z32:=Tryz.sizeOf144,
 v32:=Tryz.zeroValue144,
 t35:=Tryz.underlying149,
 a35:=Tryz.isAgg149,
 z35:=Tryz.sizeOf149,
 v35:=Tryz.zeroValue149,
 t36:=Tryz.underlying150,
 a36:=Tryz.isAgg150,
 z36:=Tryz.sizeOf150,
 v36:=Tryz.zeroValue150,
 t41:=Tryz.underlying86,
 a41:=Tryz.isAgg86,
 z41:=Tryz.sizeOf86,
 v41:=Tryz.zeroValue86,
 t44:=Tryz.underlying156,
 a44:=Tryz.isAgg156,
 z44:=Tryz.sizeOf156,
 v44:=Tryz.zeroValue156,
 t46:=Tryz.underlying131,
 a46:=Tryz.isAgg131,
 z46:=Tryz.sizeOf131,
 v46:=Tryz.zeroValue131,
 t53:=Tryz.underlying158,
 a53:=Tryz.isAgg158,
 z53:=Tryz.sizeOf158,
 v53:=Tryz.zeroValue158,
 t57:=Tryz.underlying162,
 a57:=Tryz.isAgg162,
 z57:=Tryz.sizeOf162,
 v57:=Tryz.zeroValue162,
 t63:=Tryz.underlying164,
 a63:=Tryz.isAgg164,
 z63:=Tryz.sizeOf164,
 v63:=Tryz.zeroValue164,
 t64:=Tryz.underlying58,
 a64:=Tryz.isAgg58,
 z64:=Tryz.sizeOf58,
 v64:=Tryz.zeroValue58 }
def Tryz.compL_ren:Go.Shelf.Ren:=⟨fun | 43=>88 | n=>n,fun | 22=>22 | 23=>3 | 3=>3 | 4=>4 | 0=>0 | n=>n,fun | n=>n⟩
theorem Tryz.compL:Go.Proofs.SlLaysN.n43 Tryz.prog Tryz.compL_ren:={
 mixed:=by kernel_rfl,
 f43:=⟨Tryz.f88.name,by decide,Tryz.func88.trans (congrArg some (by kernel_rfl))⟩,
 t0:=Tryz.underlying0,
 a0:=Tryz.isAgg0,
 z0:=Tryz.sizeOf0,
 v0:=Tryz.zeroValue0,
 t3:=Tryz.underlying3,
 a3:=Tryz.isAgg3,
 z3:=Tryz.sizeOf3,
 v3:=Tryz.zeroValue3,
 t4:=Tryz.underlying4,
 a4:=Tryz.isAgg4,
 z4:=Tryz.sizeOf4,
 v4:=Tryz.zeroValue4,
 t22:=Tryz.underlying22,
 a22:=Tryz.isAgg22,
 z22:=Tryz.sizeOf22,
 v22:=Tryz.zeroValue22,
 t23:=Tryz.underlying3,
 a23:=Tryz.isAgg3,
 z23:=Tryz.sizeOf3,
 v23:=Tryz.zeroValue3,
 i23:=by kernel_rfl }
end Go.Proofs.YtdoeoncmhaihbaaGreat
namespace Go.Proofs.YtdoeoncmhaihbaaGreat
set_option maxRecDepth 100000
open Go.RowKit Go.Sort Go.Lib
theorem compact_up (d:Array Int) (hs:∀ i j,i≤j→j < d.size→d[i]!≤d[j]!):∀ m,m≤d.size→Rise (compactUpTo d m)∧∀ x,x∈compactUpTo d m ↔ ∃ j,j < m∧d[j]! = x
 | 0,_=>by
  refine ⟨by simp [compactUpTo];exact List.Pairwise.nil,fun x=>by simp [compactUpTo]⟩
 | m + 1,hm=>by
  obtain ⟨h1,h2⟩:=compact_up d hs m (by omega)
  rw [compactUpTo_succ]
  by_cases hk:keeps d m = true
  ·rw [if_pos hk]
   have hk':m = 0∨d[m]!≠d[m - 1]!:=by simpa [keeps] using hk
   refine ⟨?_,fun x => ?_⟩
   ·unfold Rise at h1 ⊢
    rw [List.pairwise_append]
    refine ⟨h1,List.pairwise_singleton _ _,fun a ha b hb => ?_⟩
    obtain ⟨j,hj,rfl⟩:=(h2 a).1 ha
    simp at hb;subst hb
    have e1:=hs j (m - 1) (by omega) (by omega)
    have e2:=hs (m - 1) m (by omega) (by omega)
    rcases hk' with e | e
    ·omega
    ·omega
   ·rw [List.mem_append,h2]
    constructor
    ·rintro (⟨j,hj,rfl⟩ | hx)
     ·exact ⟨j,by omega,rfl⟩
     ·simp at hx;exact ⟨m,by omega,hx.symm⟩
    ·rintro ⟨j,hj,rfl⟩
     by_cases hjm:j < m
     ·exact .inl ⟨j,hjm,rfl⟩
     ·obtain rfl:j = m:=by omega
      exact .inr (by simp)
  ·rw [if_neg hk,List.append_nil]
   refine ⟨h1,fun x => ?_⟩
   rw [h2]
   have hk':¬ m = 0∧d[m]! = d[m - 1]!:=by simpa [keeps] using hk
   constructor
   ·rintro ⟨j,hj,rfl⟩;exact ⟨j,by omega,rfl⟩
   ·rintro ⟨j,hj,rfl⟩
    by_cases hjm:j < m
    ·exact ⟨j,hjm,rfl⟩
    ·obtain rfl:j = m:=by omega
     exact ⟨j - 1,by omega,hk'.2.symm⟩
theorem sort_le (l:List Int):(l.mergeSort fun x y=>decide (x≤y)).Pairwise (· ≤ ·):=by
 have:=List.pairwise_mergeSort (le:=fun x y:Int=>decide (x≤y)) (fun a b c=>by simp;omega) (fun a b=>by simp;omega) l
 exact this.imp fun h=>by simpa using h
theorem compact_sort (l:List Int):compact (l.mergeSort fun x y=>decide (x≤y)) = rise l:=by
 have hp:=List.mergeSort_perm l fun x y:Int=>decide (x≤y)
 obtain ⟨h1,h2⟩:=compact_up (l.mergeSort fun x y=>decide (x≤y)).toArray (fun i j hij hj=>by
  have hj':j < (l.mergeSort fun x y=>decide (x≤y)).length:=by simpa using hj
  rw [getElem!_pos _ i (by simp at hj ⊢;omega),getElem!_pos _ j hj]
  rcases Nat.lt_or_eq_of_le hij with h | h
  ·exact List.pairwise_iff_getElem.1 (sort_le l) i j (by omega) hj' h
  ·subst h;exact Int.le_refl _) _ (Nat.le_refl _)
 refine Rise.eq (by simpa [compact] using h1) (rise_rise l) fun x => ?_
 rw [mem_rise, ← hp.mem_iff]
 have:=h2 x
 simp only [List.size_toArray] at this
 unfold compact
 rw [this]
 constructor
 ·rintro ⟨j,hj,rfl⟩
  rw [getElem!_pos _ j (by simpa using hj)]
  exact List.getElem_mem _
 ·intro hx
  obtain ⟨j,hj,rfl⟩:=List.getElem_of_mem hx
  exact ⟨j,hj,by rw [getElem!_pos _ j (by simpa using hj)];rfl⟩
theorem sort_rise {l:List Int} (hn:l.Nodup):(l.mergeSort fun x y=>decide (x≤y)) = rise l:=by
 have hp:=List.mergeSort_perm l fun x y:Int=>decide (x≤y)
 refine Rise.eq ?_ (rise_rise l) fun x=>by rw [mem_rise,hp.mem_iff]
 unfold Rise
 have h1:=sort_le l
 have h2:=hp.nodup_iff.2 hn
 exact (h1.and h2).imp fun h=>by omega
theorem OwnI.split {base:Nat} {w:World} {v:Value} {l:List Int} (h:OwnI base w v l):(v = .slice none 0 0∧l = [])∨∃ g cap cur,v = .slice (some ⟨g,0,none⟩) l.length cap∧base≤g∧w.heap[g]? = some (.cells cur 3 (0,0))∧l.length≤cap∧cap≤maxLen∧cur.size = cap * 1∧cur.toList.take l.length = l.map encZ:=by
 unfold OwnI at h
 obtain ⟨h0,hn | ⟨g,cap,cur,hv,hb,hh,r1,r2,r3,r4⟩⟩:=h
 ·obtain ⟨h1,h2⟩:=hn
  refine .inl ⟨h1, ?_⟩
  rw [i64s_length] at h2
  exact List.eq_nil_of_length_eq_zero h2
 ·rw [i64s_length] at hv r1
  refine .inr ⟨g,cap,cur,hv,hb,hh,r1,r2,r3, ?_⟩
  rw [i64s_length,Nat.mul_one] at r4
  exact r4
theorem OwnI.of_row {base:Nat} {w:World} {v:Value} {l:List Int} (h:w.ownsRow base 3 1 v l.length (l.map encZ)):OwnI base w v l:=by
 unfold OwnI;rw [i64s_length];exact h
theorem mod_sorted {w:World} {g n:Nat} {os:Array Obj} (d:Array Int):Mod (fun k=>k = g) w (Go.Sort.grow (putRow encZ (Sort.ahead w n) g 0 d) os):=by
 have h:=grownBy_sorted_i (w:=w) (g:=g) (n:=n) (os:=os) d
 exact ⟨h.os,h.tape,h.output,h.size,fun k hk hn=>h.block k hk fun e=>hn (Option.some.inj e)⟩
theorem Sort_own {base:Nat} {w:World} {v:Value} {l:List Int} (h:OwnI base w v l) (hlen:l.length≤2100) :
  Calls Tryz.prog 87 #[v] w fun e w'=>e = .returned (.tuple #[])∧OwnI base w' v (l.mergeSort fun x y=>decide (x≤y))∧Mod (fun k=>v.ownBlock = some k) w w':=by
 rcases h.split with ⟨rfl,rfl⟩ | ⟨g,cap,cur,rfl,hb,hh,r1,r2,r3,r4⟩
 ·refine (AnyM.slices_Sort_int_none Tryz.sortL none 0 w).mono ?_
  rintro e w' ⟨rfl,rfl⟩
  exact ⟨rfl,by simpa using h,Mod.refl _ _⟩
 ·refine (AnyM.slices_Sort_int Tryz.sortL g 0 cap l w (holds_of_block_i hh r4) (Array.getElem?_eq_some_iff.1 hh).1 (by omega)).mono ?_
  rintro e w' ⟨rfl,n,os,rfl⟩
  have hl:(l.mergeSort fun x y=>decide (x≤y)).length = l.length:=List.length_mergeSort l
  refine ⟨rfl,OwnI.of_row ?_,(mod_sorted _).mono fun i _ hi=>by subst hi;rfl⟩
  have:=ownsRow_sorted_i (n:=n) (os:=os) (ts:=l.mergeSort fun x y=>decide (x≤y)) (ss:=l) hl hb hh r1 r2 r3
  rw [hl];exact this
theorem Compact_own {base:Nat} {w:World} {v:Value} {l:List Int} (h:OwnI base w v l) :
  Calls Tryz.prog 88 #[v] w fun e w' => ∃ v',e = .returned v'∧OwnI base w' v' (compact l)∧Mod (fun k=>v.ownBlock = some k) w w':=by
 rcases h.split with ⟨rfl,rfl⟩ | ⟨g,cap,cur,rfl,hb,hh,r1,r2,r3,r4⟩
 ·refine (AnyG.slices_Compact_int_empty Tryz.compL none 0 w).mono ?_
  rintro e w' ⟨rfl,rfl⟩
  exact ⟨_,rfl,h,Mod.refl _ _⟩
 ·refine (AnyG.slices_Compact_int Tryz.compL g 0 cap l w (holds_of_block_i hh r4) (by unfold maxLen at r2;omega) r1).mono ?_
  rintro e w' ⟨rfl,n,rfl⟩
  have hle:(compact l).length≤l.length:=by
   unfold compact compactUpTo
   rw [List.length_map]
   exact Nat.le_trans (List.length_filter_le _ _) (by simp)
  have hl:(compact l ++ List.replicate (l.length - (compact l).length) 0).length = l.length:=by simp;omega
  refine ⟨_,rfl, ?_, ?_⟩
  ·have:=ownsRow_sorted_i (n:=n) (os:=#[]) (ts:=compact l ++ List.replicate (l.length - (compact l).length) 0) (ss:=l) hl hb hh r1 r2 r3
   rw [Go.Sort.grow_empty] at this
   have h2:=own_take (xs:=(compact l ++ List.replicate (l.length - (compact l).length) 0).map encZ) (n:=(compact l).length) (by rw [List.length_map,hl];exact this) (by rw [List.length_map,hl]) (by rw [List.length_map,hl];exact hle)
   refine OwnI.of_row ?_
   have e1:((compact l ++ List.replicate (l.length - (compact l).length) 0).map encZ).take (compact l).length = (compact l).map encZ:=by
    rw [List.map_append,List.take_left' (by simp)]
   rw [e1,List.length_map] at h2
   exact h2
  ·have:=mod_sorted (w:=w) (g:=g) (n:=n) (os:=#[]) (compact l ++ List.replicate (l.length - (compact l).length) 0).toArray
   rw [Go.Sort.grow_empty] at this
   exact this.mono fun i _ hi=>by subst hi;rfl
theorem Tryz.sortsL (m:Nat):AnyZI.SortsIn Tryz.prog Tryz.sortedL_ren Fence.wide m :=
 ⟨fun blk off cap ss W hH hblk hsz=>callsIn_wide.2 (AnyM.slices_Sort_int Tryz.sortL blk off cap ss W hH hblk hsz),
  fun p cap W=>callsIn_wide.2 (AnyM.slices_Sort_int_none Tryz.sortL p cap W)⟩
end Go.Proofs.YtdoeoncmhaihbaaGreat
namespace Go.Proofs.YtdoeoncmhaihbaaGreat
set_option maxRecDepth 100000
open Go.RowKit
theorem runs_extract {P:Program} {o:Oper} {ρ:Operand→Value} {w:World} {x:Operand} {i:Nat} {vs:Array Value} {u:Value} (ho:o.op = .extract x i) (hx : ρ x = .tuple vs) (hi:vs[i]? = some u):Runs P o ρ w u:=by
 unfold Runs execOp
 simp [ho,hx,Instr.extract,hi]
set_option maxHeartbeats 1600000 in
theorem IClone_any {w:World} {v:Value} {l:List Int} (h0:Ints w v l) (hlen:l.length * 8≤140737488355328) :
  Calls Tryz.prog 20 #[v] w fun e w' => ∃ v',e = .returned v'∧OwnI w.heap.size w' v' l∧Ext w w':=by
 refine z2rz ?_
 have hr:=hide_ h0
 have hbig:=hide_ (show (([]:List Int).length + l.length) * 8≤140737488355328 from by simp;omega)
 clear h0 hlen
 go_enter Tryz.func20,Tryz.ntmps20
 go_wp2_with ((first | ((with_reducible refine at_bin ?_);refine w_isnil Tryz.elI _ _ _ rfl rfl rfl hr.out ?_;intro b hb;cases b) | (refine z3lz ?_;intro v5 w5 hX o5;replace o5:OwnI _ w5 v5 []:=o5) | ((with_reducible refine at_bi ?_);refine appi _ _ rfl rfl rfl rfl o5 (hr.out.ext hX) hbig.out hX.size ?_;intro v9 w9 o9 hb9 hg9 hg9';rw [List.nil_append] at o9;replace hX:=hX.trans' hb9;clear hb9 hg9 hg9' o5) | fail) <;> (try refine z0z ?_))
 ·go_ret
  exact Keep.intro ⟨v9,rfl,o9,hX⟩
 ·obtain rfl:l = []:=List.map_eq_nil_iff.1 (hb trivial).1
  go_ret
  exact Keep.intro ⟨_,rfl,OwnI.nil _ _,Ext.refl _⟩
def tok (v:Value):Option (DataW Value × List MemPlace):=some (.held v, [])
theorem sameKey_int (a b:Int):(Lit.int .i64 a).sameKey (.int .i64 b) = decide (a = b):=by simp [Lit.sameKey]
theorem ownsMap_mod {F:Nat→Prop} {w w':World} {P:Program} {k:TypeId} {R:Value→Option (DataW Value × List MemPlace)} {b n:Nat} {D:DataW Value} (h:w.ownsMap P k R b n D) (hm:Mod F w w') (hn:¬ F b):w'.ownsMap P k R b n D:=by
 have hl:=h.lt
 obtain ⟨es,clock,hb,r⟩:=h
 exact ⟨es,clock,(hm.block b hl hn).trans hb,r⟩
theorem ownsMap_ext {w w':World} {P:Program} {k:TypeId} {R:Value→Option (DataW Value × List MemPlace)} {b n:Nat} {D:DataW Value} (h:w.ownsMap P k R b n D) (he:Ext w w'):w'.ownsMap P k R b n D :=
 ownsMap_mod h (he.mod fun _=>False) id
section
variable {ops:Array Oper} {rest:List Oper} {o:Oper} {a:Act} {Q:Exit→Act→World→Prop} {w:World}
theorem w_mkmap {t:TypeId} (hgd:o.guard = none) (ho:o.op = Op.makeMap t none)
  (k:∀ g w',w.heap.size≤g→Ext w w'→w'.ownsMap Tryz.prog 3 tok g 0 (.map [])→wpList Tryz.prog ops Q rest (a.put o.dst (.map (some g))) w'):wpList Tryz.prog ops Q (o :: rest) a w:=by
 refine wpList_plain hgd fun K hK => ?_
 have hk:=hK _ _ (k w.heap.size (w.alloc (.map #[] 0)) (Nat.le_refl _) ((Ext.refl w).alloc _) (World.ownsMap_made w Tryz.prog 3 tok))
 unfold Oper.wp execOp
 simp [ho,run_makeMap,Result.andThen]
 exact hk
end
theorem w_alloc1 {P:Program} {ops:Array Oper} {rest:List Oper} {o:Oper} {a:Act} {Q:Exit→Act→World→Prop} {w:World} {t:TypeId} {z:Value} (hi:(P.info? t).map (fun i=>(i.zero,i.size)) = some (some z,1)) (hz:z.cells = #[z]) (hgd:o.guard = none) (ho:o.op = .alloc t)
  (k:∀ g w',w.heap.size≤g→Ext w w'→Fs w' g [z]→wpList P ops Q rest (a.put o.dst (.pointer (some ⟨g,0,none⟩))) w'):wpList P ops Q (o :: rest) a w:=by
 cases hq:P.info? t with
 | none=>rw [hq] at hi;cases hi
 | some i0 =>
  rw [hq] at hi
  simp only [Option.map_some,Option.some.injEq,Prod.mk.injEq] at hi
  refine wpList_plain hgd fun K hK => ?_
  have hk:=hK _ _ (k _ _ (Nat.le_refl _) ((Ext.refl w).alloc (.cells #[z] t)) (by simpa using Fs.alloc w #[z] t))
  unfold Oper.wp execOp
  simp [ho,Instr.alloc,newVar,newRow,zeroValue,typeInfo,hq,hi.1,hz]
  exact hk
end Go.Proofs.YtdoeoncmhaihbaaGreat
namespace Go.Proofs.YtdoeoncmhaihbaaGreat
set_option maxRecDepth 100000
open Go.RowKit
def In64 (x:Int):Prop := -9223372036854775808≤x∧x≤9223372036854775807
theorem In64.wf {x:Int} (h:In64 x):(Lit.int .i64 x).wf = true:=by unfold In64 at h;simp [Lit.wf,IntKind.min,IntKind.max,IntKind.signed,IntKind.bits];omega
theorem wf_in {x:Int} (h:(Lit.int .i64 x).wf = true):In64 x:=by unfold In64;simp [Lit.wf,IntKind.min,IntKind.max,IntKind.signed,IntKind.bits] at h;omega
theorem In64.nat {n:Nat} (h:n≤1000000):In64 (n:Int):=by unfold In64;omega
theorem Tryz.keyR:Maps.Keyed Tryz.prog 106:=Maps.Keyed.of_law (deep_law (m:=2) (by omega) (by kernel_rfl) (by kernel_rfl) (by kernel_rfl))
def rkV (k w:Int):Value := .agg #[.int .i64 k, .int .i64 w]
noncomputable def rkL (k w:Int):Go.Lit := .string (keyBytes [.int .i64 k, .int .i64 w])
theorem Tryz.cellsR:Tryz.prog.cellsOf 106 = 2:=by kernel_rfl
theorem Tryz.cellsI:Tryz.prog.cellsOf 3 = 1:=by kernel_rfl
theorem Tryz.ktR:Tryz.prog.keyType 106 = true:=by kernel_rfl
theorem Tryz.tsz:∃ m,Tryz.prog.types.size = m + 1:=⟨Tryz.prog.types.size - 1,by kernel_rfl⟩
theorem rkL_of {k w:Int} (hk:In64 k) (hw:In64 w):keyOf Tryz.prog 106 (rkV k w) = some (rkL k w):=by
 obtain ⟨m,hm⟩:=Tryz.tsz
 unfold keyOf
 rw [Tryz.underlying106]
 simp only [Tryz.ktR,Bool.true_and,rkV,Value.formed,Tryz.underlying106,Tryz.cellsR,hm,rkL]
 simp [Program.keyLits,Tryz.underlying106,Tryz.underlying3,Tryz.cellsR,Tryz.cellsI,Value.cells,hk.wf,hw.wf]
theorem kl_int {m:Nat} {a:Value} {y:List Go.Lit} (h:Tryz.prog.keyLits (m + 1) 3 [a] = some y):∃ n,a = .int .i64 n∧y = [.int .i64 n]∧In64 n:=by
 unfold Program.keyLits at h
 rw [Tryz.underlying3] at h
 cases a with
 | int q n =>
  simp only at h
  split at h
  ·rename_i hc
   obtain ⟨rfl,hw⟩:=hc
   injection h with h
   exact ⟨n,rfl,h.symm,wf_in hw⟩
  ·cases h
 | _=>cases h
theorem keyR_inv {v:Value} {l:Go.Lit} (h:keyOf Tryz.prog 106 v = some l):∃ k w,v = rkV k w∧l = rkL k w∧In64 k∧In64 w:=by
 obtain ⟨m,hm⟩:=Tryz.tsz
 unfold keyOf at h
 rw [Tryz.underlying106] at h
 simp only [Tryz.ktR,Bool.true_and] at h
 split at h
 ·rename_i hf
  cases v <;> simp only [Value.formed,Tryz.underlying106,Bool.false_eq_true] at hf
  rename_i cs
  rw [Tryz.cellsR,beq_iff_eq] at hf
  obtain ⟨l⟩:=cs
  match l,hf with
  | [a,b],_ =>
   unfold Program.keyLits at h
   rw [Tryz.underlying106,Tryz.cellsR,hm] at h
   obtain ⟨ls,hls,rfl⟩:=Option.map_eq_some_iff.1 h
   have h2:=(Option.ite_none_right_eq_some.1 hls).2
   obtain ⟨ll,h3,rfl⟩:=Option.map_eq_some_iff.1 h2
   simp only [Value.cells,List.mapM_cons,List.mapM_nil,List.drop_zero,List.drop_succ_cons,Tryz.cellsI,List.take_succ_cons,List.take_zero,bind,pure] at h3
   cases h1:Tryz.prog.keyLits (m + 1) 3 [a] with
   | none=>rw [h1] at h3;cases h3
   | some y1 =>
    cases h5:Tryz.prog.keyLits (m + 1) 3 [b] with
    | none=>rw [h1,h5] at h3;cases h3
    | some y2 =>
     rw [h1,h5] at h3
     obtain ⟨k,rfl,rfl,hk⟩:=kl_int h1
     obtain ⟨w,rfl,rfl,hw⟩:=kl_int h5
     injection h3 with h3
     exact ⟨k,w,rfl,by rw [← h3];rfl,hk,hw⟩
 ·cases h
theorem rkL_inj {k w k' w':Int} (hk:In64 k) (hw:In64 w) (hk':In64 k') (hw':In64 w') (h:rkL k w = rkL k' w'):k = k'∧w = w':=by
 have:=Tryz.keyR.inj (rkL_of hk hw) (h ▸ rkL_of hk' hw')
 simpa [rkV] using this
theorem rkL_key (k w:Int):WideAt.IsKeyLit (rkL k w):=trivial
def fat (f:Nat→Option Int) (j:Int):Option Int:=if j < 0 then none else f j.toNat
theorem fat_nat (f:Nat→Option Int) (i:Nat):fat f (i:Int) = f i:=by unfold fat;rw [if_neg (by omega)];simp
def InM (D:DataW Value) (f:Nat→Option Int):Prop :=
 Maps.IsMap D∧∀ j:Int,In64 j→Maps.has D (.int .i64 j) = (fat f j).isSome∧D.atKey (.int .i64 j) (.held (.int .i64 0)) = .held (.int .i64 ((fat f j).getD 0))
theorem InM.nil:InM (.map []) fun _=>none :=
 ⟨Maps.isMap_empty,fun j _=>by
  have:fat (fun _=>none) j = none:=by unfold fat;split <;> rfl
  rw [this];exact ⟨rfl,rfl⟩⟩
theorem litI_ne {a b:Int} (h:a≠b):(Lit.int .i64 a)≠Lit.int .i64 b:=fun e=>by injection e with _ e;exact h e
theorem InM.put {D:DataW Value} {f:Nat→Option Int} (h:InM D f) (i:Nat) (x:Int):InM (D.put (.int .i64 (i:Int)) (.held (.int .i64 x))) fun j=>if j = i then some x else f j:=by
 refine ⟨h.1.put _ _,fun j hj => ?_⟩
 by_cases e:j = (i:Int)
 ·subst e
  rw [Maps.has_put_same h.1 (by trivial),Maps.atKey_put_same h.1 (by trivial),fat_nat]
  simp
 ·rw [Maps.has_put_other (litI_ne e),Maps.atKey_put_other (litI_ne e)]
  have:fat (fun j=>if j = i then some x else f j) j = fat f j:=by
   unfold fat
   split
   ·rfl
   ·show (if j.toNat = i then some x else f j.toNat) = f j.toNat
    rw [if_neg (by omega)]
  rw [this];exact h.2 j hj
def InR (N:Nat) (w:World) (mb:Option Nat) (f:Nat→Option Int):Prop:=match mb with
 | none => ∀ i,f i = none
 | some b => ∃ (n:Nat) (D:DataW Value),n≤N∧w.ownsMap Tryz.prog 3 tok b n D∧InM D f
theorem InR.mod {N:Nat} {F:Nat→Prop} {w w':World} {mb:Option Nat} {f:Nat→Option Int} (h:InR N w mb f) (hm:Mod F w w') (hn:∀ b,mb = some b→¬ F b):InR N w' mb f:=by
 cases mb with
 | none=>exact h
 | some b=>obtain ⟨n,D,h0,h1,h2⟩:=h;exact ⟨n,D,h0,ownsMap_mod h1 hm (hn b rfl),h2⟩
theorem InR.ext {N:Nat} {w w':World} {mb:Option Nat} {f:Nat→Option Int} (h:InR N w mb f) (he:Ext w w'):InR N w' mb f:=h.mod (he.mod fun _=>False) fun _ _=>id
theorem InR.more {N N':Nat} {w:World} {mb:Option Nat} {f:Nat→Option Int} (h:InR N w mb f) (hN:N≤N'):InR N' w mb f:=by
 cases mb with
 | none=>exact h
 | some b=>obtain ⟨n,D,h0,h1,h2⟩:=h;exact ⟨n,D,by omega,h1,h2⟩
def TabOk (T:Tab) (n:Nat):Prop := ∀ k w i x,T k w i = some x→(k = 4∨k = 5)∧(0≤w∧w≤1000)∧i < n ∧ -1≤x∧x≤9223372036854775807
structure RndM (D:DataW Value) (m:Int→Int→Option Nat):Prop where
 map:Maps.IsMap D
 get:∀ k v,In64 k→In64 v→Maps.has D (rkL k v) = (m k v).isSome∧D.atKey (rkL k v) (.held (.map none)) = .held (.map (m k v))
 dom:∀ k v,m k v≠none→(k = 4∨k = 5)∧0≤v∧v≤1000
 inj:∀ k v k' v' b,m k v = some b→m k' v' = some b→k = k'∧v = v'
theorem RndM.in64 {D:DataW Value} {m:Int→Int→Option Nat} (h:RndM D m) {k v:Int} (hm:m k v≠none):In64 k∧In64 v:=by
 have:=h.dom k v hm
 unfold In64;omega
theorem RndM.nil:RndM (.map []) fun _ _=>none :=
 ⟨Maps.isMap_empty,fun _ _ _ _=>⟨rfl,rfl⟩,fun _ _ h=>absurd rfl h,fun _ _ _ _ _ h=>nomatch h⟩
structure TalW (X:Nat→Prop) (w:World) (p:Nat) (sv:Value) (g:Nat) (D:DataW Value) (m:Int→Int→Option Nat) (t:List Int) (T:Tab) (N:Nat):Prop where
 obj:Fs w p [sv, .map (some g)]
 stk:Ints w sv t
 sto:∀ k,sv.ownBlock = some k→X k∧k < w.heap.size∧k≠p∧k≠g
 xp:X p∧X g∧p≠g
 own:w.ownsMap Tryz.prog 106 tok g N D
 rnd:RndM D m
 inn:∀ k v,InR N w (m k v) (T k v)
 sep:∀ k v b,m k v = some b→X b∧b < w.heap.size∧b≠p∧b≠g∧sv.ownBlock≠some b
 ok:TabOk T t.length
 st:StOk t
section
variable {X Y F:Nat→Prop} {w w':World} {p g:Nat} {sv:Value} {D:DataW Value} {m:Int→Int→Option Nat} {t:List Int} {T:Tab} {N:Nat}
theorem ints_mod (h:Ints w sv t) (hm:Mod F w w') (hn:∀ k,sv.ownBlock = some k→¬ F k):Ints w' sv t:=Sl.mod h hm hn
theorem TalW.mod (h:TalW X w p sv g D m t T N) (hm:Mod F w w') (hX:∀ k,X k→¬ F k):TalW X w' p sv g D m t T N where
 obj:=h.obj.mod hm (hX p h.xp.1)
 stk:=ints_mod h.stk hm fun k hk=>hX k (h.sto k hk).1
 sto:=fun k hk=>⟨(h.sto k hk).1,Nat.lt_of_lt_of_le (h.sto k hk).2.1 hm.size,(h.sto k hk).2.2⟩
 xp:=h.xp
 own:=ownsMap_mod h.own hm (hX g h.xp.2.1)
 rnd:=h.rnd
 inn:=fun k v=>(h.inn k v).mod hm fun b hb=>hX b (h.sep k v b hb).1
 sep:=fun k v b hb=>⟨(h.sep k v b hb).1,Nat.lt_of_lt_of_le (h.sep k v b hb).2.1 hm.size,(h.sep k v b hb).2.2⟩
 ok:=h.ok
 st:=h.st
theorem TalW.ext (h:TalW X w p sv g D m t T N) (he:Ext w w'):TalW X w' p sv g D m t T N:=h.mod (he.mod fun _=>False) fun _ _=>id
theorem TalW.mono (h:TalW X w p sv g D m t T N) (hs:∀ k,X k→Y k):TalW Y w p sv g D m t T N :=
 ⟨h.obj,h.stk,fun k hk=>⟨hs k (h.sto k hk).1,(h.sto k hk).2⟩,⟨hs p h.xp.1,hs g h.xp.2.1,h.xp.2.2⟩,h.own,h.rnd,h.inn,fun k v b hb=>⟨hs b (h.sep k v b hb).1,(h.sep k v b hb).2⟩,h.ok,h.st⟩
end
theorem TabOk.put {T:Tab} {n:Nat} (h:TabOk T n) {k v x:Int} {i:Nat} (hk:k = 4∨k = 5) (hv:0≤v∧v≤1000) (hi:i < n) (hx : -1≤x∧x≤9223372036854775807):TabOk (fun k' v' i'=>if k' = k∧v' = v∧i' = i then some x else T k' v' i') n:=by
 intro k' v' i' x' hc
 simp only at hc
 split at hc
 ·rename_i e
  obtain ⟨rfl,rfl,rfl⟩:=e
  injection hc with hc
  subst hc
  exact ⟨hk,hv,hi,hx⟩
 ·exact h k' v' i' x' hc
section
variable {X Y F:Nat→Prop} {w w' w'':World} {p g b:Nat} {sv:Value} {D:DataW Value} {m:Int→Int→Option Nat} {t:List Int} {T:Tab} {N:Nat} {k v x:Int} {i:Nat}
theorem TalW.begin (h:TalW X w p sv g D m t T N) (hm:m k v = none) (hk:k = 4∨k = 5) (hv:0≤v∧v≤1000) (he:Ext w w') (hb:w.heap.size≤b) (hbl:b < w'.heap.size)
  (hmd:Mod (fun j=>j = g) w' w'') (hnew:w''.ownsMap Tryz.prog 3 tok b 0 (.map [])) (hown:w''.ownsMap Tryz.prog 106 tok g (N + 1) (D.put (rkL k v) (.held (.map (some b))))) :
  TalW (fun j=>X j∨j = b) w'' p sv g (D.put (rkL k v) (.held (.map (some b)))) (fun k' v'=>if k' = k∧v' = v then some b else m k' v') t T (N + 1):=by
 have h1:=h.ext he
 have hgl:=h1.own.lt
 have hbg:b≠g:=fun e=>by have:=h.own.lt;omega
 have hbp:b≠p:=fun e=>by have:=h.obj.lt;omega
 have hs:=hmd.size
 have hk64:In64 k:=by unfold In64;omega
 have hv64:In64 v:=by unfold In64;omega
 have hT:∀ i,T k v i = none:=by have:=h.inn k v;rw [hm] at this;exact this
 refine ⟨h1.obj.mod hmd h.xp.2.2,ints_mod h1.stk hmd fun j hj=>(h.sto j hj).2.2.2,fun j hj => ?_,⟨.inl h.xp.1, .inl h.xp.2.1,h.xp.2.2⟩,hown,⟨h.rnd.map.put _ _, ?_, ?_, ?_⟩, ?_, ?_,h.ok,h.st⟩
 ·have:=h1.sto j hj
  exact ⟨.inl this.1,by omega,this.2.2⟩
 ·intro k' v' hk' hv'
  by_cases e:k' = k∧v' = v
  ·obtain ⟨rfl,rfl⟩:=e
   rw [Maps.has_put_same h.rnd.map (rkL_key _ _),Maps.atKey_put_same h.rnd.map (rkL_key _ _),if_pos ⟨rfl,rfl⟩]
   exact ⟨rfl,rfl⟩
  ·have hne:rkL k' v'≠rkL k v:=fun he=>e (rkL_inj hk' hv' hk64 hv64 he)
   rw [Maps.has_put_other hne,Maps.atKey_put_other hne,if_neg e]
   exact h.rnd.get k' v' hk' hv'
 ·intro k' v' hne
  split at hne
  ·rename_i e;rw [e.1,e.2];exact ⟨hk,hv⟩
  ·exact h.rnd.dom k' v' hne
 ·intro k1 v1 k2 v2 b' h1' h2'
  have old:∀ k' v',m k' v' = some b'→b'≠b:=fun k' v' he e=>by have:=(h.sep k' v' b' he).2.1;omega
  split at h1' <;> split at h2'
  ·rename_i e1 e2;rw [e1.1,e1.2,e2.1,e2.2];exact ⟨rfl,rfl⟩
  ·injection h1' with e;exact absurd e.symm (old _ _ h2')
  ·injection h2' with e;exact absurd e.symm (old _ _ h1')
  ·exact h.rnd.inj _ _ _ _ _ h1' h2'
 ·intro k' v'
  show InR (N + 1) w'' (if k' = k∧v' = v then some b else m k' v') (T k' v')
  split
  ·rename_i e
   rw [e.1,e.2]
   refine ⟨0,_,by omega,hnew, ?_⟩
   have:T k v = fun _=>none:=funext hT
   rw [this];exact InM.nil
  ·exact ((h1.inn k' v').mod hmd fun b' hb'=>(h.sep k' v' b' hb').2.2.2.1).more (by omega)
 ·intro k' v' b' hb'
  split at hb'
  ·injection hb' with e
   subst e
   exact ⟨.inr rfl,by omega,hbp,hbg,fun hc=>by have:=(h.sto _ hc).2.1;omega⟩
  ·have:=h1.sep k' v' b' hb'
   exact ⟨.inl this.1,by omega,this.2.2⟩
theorem TalW.vote (h:TalW X w p sv g D m t T N) (hm:m k v = some b) (hk:k = 4∨k = 5) (hv:0≤v∧v≤1000) (hi:i < t.length) (hx : -1≤x∧x≤9223372036854775807)
  (hmd:Mod (fun j=>j = b) w w') {n N':Nat} {D':DataW Value} (hNN:N≤N') (hn:n≤N') (hown:w'.ownsMap Tryz.prog 3 tok b n (D'.put (.int .i64 (i:Int)) (.held (.int .i64 x)))) (hin:InM D' (T k v)) :
  TalW X w' p sv g D m t (fun k' v' i'=>if k' = k∧v' = v∧i' = i then some x else T k' v' i') N':=by
 have hsp:=h.sep k v b hm
 have hs:=hmd.size
 refine ⟨h.obj.mod hmd (Ne.symm hsp.2.2.1),ints_mod h.stk hmd fun j hj e=>hsp.2.2.2.2 (by rw [hj,e]),fun j hj=>⟨(h.sto j hj).1,by have:=(h.sto j hj).2.1;omega,(h.sto j hj).2.2⟩,h.xp,(ownsMap_mod h.own hmd (Ne.symm hsp.2.2.2.1)).mono (by omega),h.rnd, ?_,fun k' v' b' hb'=>⟨(h.sep k' v' b' hb').1,by have:=(h.sep k' v' b' hb').2.1;omega,(h.sep k' v' b' hb').2.2⟩,h.ok.put hk hv hi hx,h.st⟩
 intro k' v'
 by_cases e:k' = k∧v' = v
 ·obtain ⟨rfl,rfl⟩:=e
  rw [hm]
  refine ⟨n,_,hn,hown, ?_⟩
  have:(fun i'=>if k' = k'∧v' = v'∧i' = i then some x else T k' v' i') = fun j=>if j = i then some x else T k' v' j:=by funext j;simp
  rw [this];exact hin.put i x
 ·have:(fun i'=>if k' = k∧v' = v∧i' = i then some x else T k' v' i') = T k' v':=by
   funext j;rw [if_neg fun hc=>e ⟨hc.1,hc.2.1⟩]
  show InR N' w' (m k' v') (fun i'=>if k' = k∧v' = v∧i' = i then some x else T k' v' i')
  rw [this]
  exact ((h.inn k' v').mod hmd fun b' hb' he=>by subst he;exact e (h.rnd.inj _ _ _ _ _ hb' hm)).more (by omega)
end
def Tal (X:Nat→Prop) (w:World) (p:Nat) (t:List Int) (T:Tab) (N:Nat):Prop := ∃ sv g D m,TalW X w p sv g D m t T N
section
variable {X Y F:Nat→Prop} {w w':World} {p:Nat} {t:List Int} {T:Tab} {N:Nat}
theorem Tal.mod (h:Tal X w p t T N) (hm:Mod F w w') (hX:∀ k,X k→¬ F k):Tal X w' p t T N:=by obtain ⟨sv,g,D,m,h⟩:=h;exact ⟨sv,g,D,m,h.mod hm hX⟩
theorem Tal.ext (h:Tal X w p t T N) (he:Ext w w'):Tal X w' p t T N:=h.mod (he.mod fun _=>False) fun _ _=>id
theorem Tal.mono (h:Tal X w p t T N) (hs:∀ k,X k→Y k):Tal Y w p t T N:=by obtain ⟨sv,g,D,m,h⟩:=h;exact ⟨sv,g,D,m,h.mono hs⟩
theorem Tal.ok (h:Tal X w p t T N):TabOk T t.length:=by obtain ⟨sv,g,D,m,h⟩:=h;exact h.ok
theorem Tal.st (h:Tal X w p t T N):StOk t:=by obtain ⟨sv,g,D,m,h⟩:=h;exact h.st
end
theorem Tryz.stTal:St Tryz.prog 104 2 [.slice none 0 0, .map none]:=St.of (by kernel_rfl) (by kernel_rfl) rfl
theorem Tryz.stRnd:St Tryz.prog 106 2 [.int .i64 0, .int .i64 0]:=St.of (by kernel_rfl) (by kernel_rfl) rfl
theorem zeroM (w:World):(zeroValue 65).run Tryz.prog w = .ok (.map none) w:=by kernel_rfl
theorem zeroI (w:World):(zeroValue 3).run Tryz.prog w = .ok (.int .i64 0) w:=by kernel_rfl
section
variable {ops:Array Oper} {rest:List Oper} {o:Oper} {a:Act} {Q:Exit→Act→World→Prop} {w:World} {ρ:Operand→Value}
theorem runs_rlook (x y:Operand) {g N:Nat} {D:DataW Value} {m:Int→Int→Option Nat} {k v:Int} (ho:o.op = Op.lookup 102 x y false) (hx : ρ x = .map (some g)) (hy : ρ y = rkV k v)
  (hk:In64 k) (hv:In64 v) (h:w.ownsMap Tryz.prog 106 tok g N D) (hr:RndM D m):Runs Tryz.prog o ρ w (.map (m k v)):=by
 obtain ⟨u,ps,h1,h2⟩:=h.lookup Tryz.keyR Tryz.underlying102 (zeroM w) (zd := .held (.map none)) (zp:=[]) rfl (rkL_of hk hv)
 rw [(hr.get k v hk hv).2] at h2
 obtain ⟨rfl,_⟩:u = .map (m k v)∧ps = []:=by simpa [tok] using h2
 unfold Runs execOp
 simp [ho,hx,hy,h1]
theorem runs_ilook (x y:Operand) {mb:Option Nat} {f:Nat→Option Int} {j:Int} (ho:o.op = Op.lookup 65 x y true) (hx : ρ x = .map mb) (hy : ρ y = .int .i64 j)
  {N:Nat} (hj:In64 j) (h:InR N w mb f):Runs Tryz.prog o ρ w (.tuple #[.int .i64 ((fat f j).getD 0), .bool (fat f j).isSome]):=by
 have hkey:keyOf Tryz.prog 3 (.int .i64 j) = some (.int .i64 j):=Maps.keyOf_int_mk Tryz.underlying3 hj.wf
 cases mb with
 | none =>
  have hf:fat f j = none:=by unfold fat;split;rfl;exact h _
  have hc:=Tryz.keyI.check w true hkey
  unfold Runs execOp
  simp [ho,hx,hy,hf,Instr.lookup,run_underlying Tryz.underlying65,hc]
  rcases Tryz.keyI.find w hkey [] (by simp) with ⟨h1,_⟩ | ⟨_,_,_,h1,_⟩
  ·simp [h1]
  ·simp at h1
 | some b =>
  obtain ⟨n,D,_,h1,h2⟩:=h
  obtain ⟨u,ps,h3,h4⟩:=h1.look_ok Tryz.keyI Tryz.underlying65 (zeroI w) (zd := .held (.int .i64 0)) (zp:=[]) rfl hkey
  rw [(h2.2 j hj).2] at h4
  obtain ⟨rfl,_⟩:u = .int .i64 ((fat f j).getD 0)∧ps = []:=by simpa [tok] using h4
  rw [(h2.2 j hj).1] at h3
  unfold Runs execOp
  simp [ho,hx,hy,h3]
theorem w_rlook (x y:Operand) {g N:Nat} {D:DataW Value} {m:Int→Int→Option Nat} {k v:Int} (hgd:o.guard = none) (ho:o.op = Op.lookup 102 x y false) (hx:a.eval x = .map (some g)) (hy:a.eval y = rkV k v)
  (hk:In64 k) (hv:In64 v) (h:w.ownsMap Tryz.prog 106 tok g N D) (hr:RndM D m) (kk:wpList Tryz.prog ops Q rest (a.put o.dst (.map (m k v))) w):wpList Tryz.prog ops Q (o :: rest) a w :=
 wpList_runs hgd (runs_rlook x y ho hx hy hk hv h hr) kk
theorem w_ilook (x y:Operand) {mb:Option Nat} {f:Nat→Option Int} {j:Int} (hgd:o.guard = none) (ho:o.op = Op.lookup 65 x y true) (hx:a.eval x = .map mb) (hy:a.eval y = .int .i64 j)
  {N:Nat} (hj:In64 j) (h:InR N w mb f) {r:Option Int} (hr:fat f j = r) (kk:wpList Tryz.prog ops Q rest (a.put o.dst (.tuple #[.int .i64 (r.getD 0), .bool r.isSome])) w):wpList Tryz.prog ops Q (o :: rest) a w:=by
 subst hr
 exact wpList_runs hgd (runs_ilook x y ho hx hy hj h) kk
end
end Go.Proofs.YtdoeoncmhaihbaaGreat
namespace Go.Proofs.YtdoeoncmhaihbaaGreat
set_option maxRecDepth 100000
open Go.RowKit Go.ChangeShapes Go.WideShapes Go.ChangeAt
def mRow (d:MsgD) (u:Value):List Value:=[.int .i64 d.kd, .int .i64 d.fm, .int .i64 d.ix, .int .i64 d.vw, .int .i64 d.vl, .int .i64 d.pr, .int .i64 d.tx.id, .int .i64 d.tx.fee, .int .i64 d.bk.slot, .int .i64 d.bk.miner, .int .i64 d.bk.var, .int .i64 d.bk.parent,u]
def bRw (d:BlkD) (u:Value):List Value:=[.int .i64 d.slot, .int .i64 d.miner, .int .i64 d.var, .int .i64 d.parent,u]
def tRw (d:TxD):List Value:=[.int .i64 d.id, .int .i64 d.fee]
def mZero:List Value:=[.int .i64 0, .int .i64 0, .int .i64 0, .int .i64 0, .int .i64 0, .int .i64 0, .int .i64 0, .int .i64 0, .int .i64 0, .int .i64 0, .int .i64 0, .int .i64 0, .slice none 0 0]
structure MsgD.Raw (d:MsgD):Prop where
 kd:I64 d.kd
 fm:I64 d.fm
 ix:I64 d.ix
 vw:I64 d.vw
 vl:I64 d.vl
 pr:I64 d.pr
 tx:d.tx.Raw
 bk:d.bk.Raw
 few:d.bk.txs.length * 16≤140737488355328
instance:Inhabited MsgD:=⟨MsgD.zero⟩
def MsgR (w:World) (row:List Value) (d:MsgD):Prop:=(∃ u,row = mRow d u∧Recs 2 TxR w u d.bk.txs)∧d.Raw
theorem MsgR.stays:Stays MsgR:=fun _ _ _ _ ⟨⟨u,h1,h2⟩,h4⟩ he=>⟨⟨u,h1,h2.ext TxR.stays he⟩,h4⟩
theorem m_one {d:MsgD} {u:Value} (h:u.oneCell' = true):∀ x∈mRow d u,x.oneCell' = true:=by
 intro x hx
 simp only [mRow,List.mem_cons,List.not_mem_nil,or_false] at hx
 rcases hx with rfl|rfl|rfl|rfl|rfl|rfl|rfl|rfl|rfl|rfl|rfl|rfl|rfl
 all_goals first | rfl | assumption
theorem mself_at {cs:List Value}:∀ (j:Nat) (x:Value),cs[j]? = some x→cs[0 + j]? = some x:=fun j x h=>by rw [Nat.zero_add];exact h
theorem mtx_at (d:MsgD) (u:Value):∀ (j:Nat) (x:Value),(tRw d.tx)[j]? = some x→(mRow d u)[6 + j]? = some x:=fun j x h=>by
 match j,h with
 | 0,h=>exact h
 | 1,h=>exact h
 | j + 2,h=>simp [tRw] at h
theorem mbk_at (d:MsgD) (u:Value):∀ (j:Nat) (x:Value),(bRw d.bk u)[j]? = some x→(mRow d u)[8 + j]? = some x:=fun j x h=>by
 match j,h with
 | 0,h=>exact h
 | 1,h=>exact h
 | 2,h=>exact h
 | 3,h=>exact h
 | 4,h=>exact h
 | j + 5,h=>simp [bRw] at h
theorem Tryz.stMsg:StN Tryz.prog 42 13 mZero:=StN.of (by kernel_rfl) (by kernel_rfl) rfl
theorem Tryz.stBlkM:StN Tryz.prog 40 5 [.int .i64 0, .int .i64 0, .int .i64 0, .int .i64 0, .slice none 0 0]:=StN.of (by kernel_rfl) (by kernel_rfl) rfl
theorem Tryz.stTxM:StN Tryz.prog 37 2 [.int .i64 0, .int .i64 0]:=StN.of (by kernel_rfl) (by kernel_rfl) rfl
section
variable {H:Type} {enc:TypeId × Value→H} {W:World}
theorem rd_BlkF {fuel:Nat} {cs:List Value} {y:DataW H × List MemPlace} (hlen:cs.length = 5) (hy:DataW.trod enc Tryz.prog W 0 (fun _=>true) true fuel 40 cs = some y) (hw:Fits Tryz.prog 40 y.1):∃ d,BlkR W cs d∧d.txs.length * 16≤140737488355328:=by
 obtain ⟨d,hd⟩:=rd_Blk hlen hy hw
 refine ⟨d,hd, ?_⟩
 obtain ⟨xs,m,_,rfl,_,hxl,hf⟩:=DataW.trod_struct Tryz.underlying40 hy
 obtain ⟨⟨u4,rfl,hr⟩,_⟩:=hd
 match xs,hxl with
 | [y0,y1,y2,y3,y4],_ =>
  have k4:DataW.trod enc Tryz.prog W 0 (fun _=>true) true m 38 [u4] = some y4:=hf 4 _ rfl
  simp only [List.map_cons,List.map_nil] at hw
  obtain ⟨l4,g4,b4⟩:=rd_recs (d:=y4.1) (pl:=y4.2) (n:=2) (R:=TxR) Tryz.underlying38 (by kernel_rfl) (fun fuel cs y hlen hy hw=>rd_Tx hlen hy hw) k4 (hw.part Tryz.underlying40 (j:=4) rfl rfl)
  rw [show Tryz.prog.bytesOf 37 = 16 from by kernel_rfl] at b4
  have e:l4.length = d.txs.length:=by
   obtain ⟨r1,⟨A1,c1,e1,_⟩,q1,_⟩:=g4
   obtain ⟨r2,⟨A2,c2,e2,_⟩,q2,_⟩:=hr
   rw [e1] at e2
   injection e2 with _ e2 _
   omega
  have:reachBytes≤140737488355328:=by decide
  omega
theorem rd_Msg {fuel:Nat} {cs:List Value} {y:DataW H × List MemPlace} (hlen:cs.length = 13) (hy:DataW.trod enc Tryz.prog W 0 (fun _=>true) true fuel 42 cs = some y) (hw:Fits Tryz.prog 42 y.1):∃ d,MsgR W cs d:=by
 obtain ⟨xs,m,_,rfl,_,hxl,hf⟩:=DataW.trod_struct Tryz.underlying42 hy
 match xs,hxl,cs,hlen with
 | [y0,y1,y2,y3,y4,y5,y6,y7],_, [c0,c1,c2,c3,c4,c5,c6,c7,c8,c9,c10,c11,c12],_ =>
  have k0:DataW.trod enc Tryz.prog W 0 (fun _=>true) true m 3 [c0] = some y0:=hf 0 _ rfl
  have k1:DataW.trod enc Tryz.prog W 0 (fun _=>true) true m 3 [c1] = some y1:=hf 1 _ rfl
  have k2:DataW.trod enc Tryz.prog W 0 (fun _=>true) true m 3 [c2] = some y2:=hf 2 _ rfl
  have k3:DataW.trod enc Tryz.prog W 0 (fun _=>true) true m 3 [c3] = some y3:=hf 3 _ rfl
  have k4:DataW.trod enc Tryz.prog W 0 (fun _=>true) true m 3 [c4] = some y4:=hf 4 _ rfl
  have k5:DataW.trod enc Tryz.prog W 0 (fun _=>true) true m 3 [c5] = some y5:=hf 5 _ rfl
  have k6:DataW.trod enc Tryz.prog W 0 (fun _=>true) true m 37 [c6,c7] = some y6:=hf 6 _ rfl
  have k7:DataW.trod enc Tryz.prog W 0 (fun _=>true) true m 40 [c8,c9,c10,c11,c12] = some y7:=hf 7 _ rfl
  simp only [List.map_cons,List.map_nil] at hw
  obtain ⟨a0,e0,_,b0⟩:=DataW.trod_int Tryz.underlying3 k0
  obtain ⟨a1,e1,_,b1⟩:=DataW.trod_int Tryz.underlying3 k1
  obtain ⟨a2,e2,_,b2⟩:=DataW.trod_int Tryz.underlying3 k2
  obtain ⟨a3,e3,_,b3⟩:=DataW.trod_int Tryz.underlying3 k3
  obtain ⟨a4,e4,_,b4⟩:=DataW.trod_int Tryz.underlying3 k4
  obtain ⟨a5,e5,_,b5⟩:=DataW.trod_int Tryz.underlying3 k5
  injection e0 with e0 _
  injection e1 with e1 _
  injection e2 with e2 _
  injection e3 with e3 _
  injection e4 with e4 _
  injection e5 with e5 _
  subst e0 e1 e2 e3 e4 e5
  obtain ⟨t,ht,hraw⟩:=rd_Tx (y:=y6) rfl k6 (hw.part Tryz.underlying42 (j:=6) rfl rfl)
  obtain ⟨b,⟨⟨u,hb,hr⟩,hbr⟩,hfew⟩:=rd_BlkF (y:=y7) rfl k7 (hw.part Tryz.underlying42 (j:=7) rfl rfl)
  injection ht with e6 ht
  injection ht with e7 _
  injection hb with e8 hb
  injection hb with e9 hb
  injection hb with e10 hb
  injection hb with e11 hb
  injection hb with e12 _
  subst e6 e7 e8 e9 e10 e11 e12
  exact ⟨⟨a0,a1,a2,a3,a4,a5,t,b⟩,⟨_,rfl,hr⟩,⟨i64_wf b0,i64_wf b1,i64_wf b2,i64_wf b3,i64_wf b4,i64_wf b5,hraw,hbr,hfew⟩⟩
end
structure AgT (P:Program) (t:TypeId) (n:Nat) (zs:List Value):Prop where
 ag:∀ w,(isAgg t).run P w = .ok true w
 info:∃ i:TypeInfo,P.info? t = some i∧i.zero = some (.agg zs.toArray)∧i.size = n
 zl:zs.length = n
theorem AgT.of {P:Program} {t:TypeId} {n:Nat} {zs:List Value} (h:(match P.underlying t with | some (.struct _)=>true | some (.array _ _)=>true | _=>false) = true) (hz:(P.info? t).map (fun i=>(i.zero,i.size)) = some (some (.agg zs.toArray),n)) (hl:zs.length = n):AgT P t n zs:=by
 refine ⟨fun w => ?_, ?_,hl⟩
 ·cases hu:P.underlying t with
  | none=>rw [hu] at h;cases h
  | some u=>rw [hu] at h;cases u <;> first | (cases h;done) | simp [isAgg,run_underlying hu]
 ·cases hq:P.info? t with
  | none=>rw [hq] at hz;simp at hz
  | some i=>rw [hq] at hz;simp at hz;exact ⟨i,rfl,hz.1,hz.2⟩
theorem Tryz.agMsg:AgT Tryz.prog 42 13 mZero:=AgT.of (by kernel_rfl) (by kernel_rfl) rfl
theorem Tryz.ag6:AgT Tryz.prog 132 6 [.int .i64 0, .int .i64 0, .int .i64 0, .int .i64 0, .int .i64 0, .int .i64 0]:=AgT.of (by kernel_rfl) (by kernel_rfl) rfl
section
variable {P:Program} {ops:Array Oper} {rest:List Oper} {o:Oper} {a:Act} {Q:Exit→Act→World→Prop} {w:World} {t:TypeId} {n:Nat} {zs:List Value}
theorem run_loadVar_ag (E:AgT P t n zs) {g:Nat} {cs:List Value} (h:Fs w g cs) (hl:cs.length = n):(loadVar t ⟨g,0,none⟩).run P w = .ok (.agg cs.toArray) w:=by
 obtain ⟨i0,hi,_,hs⟩:=E.info
 have hc:=run_loadCells_list (P:=P) w ⟨g,0,none⟩ cs (fun j u hj=>by rw [add_zero_off];exact h.cell hj)
 rw [hl] at hc
 simp [loadVar,E.ag,sizeOf,typeInfo,hi,hs,hc]
theorem ag_one (E:AgT P t n zs) {fn:Func} {s g:Nat} {cs:List Value} {tmps:Array Value} (hrs:fn.results = #[.cell s t]) (hp:tmps.getD s undef = .pointer (some ⟨g,0,none⟩)) (h:Fs w g cs) (hl:cs.length = n) :
  (results fn tmps).run P w = .ok (.agg cs.toArray) w:=by
 have hr:=run_loadVar_ag E h hl
 rw [Array.getD_eq_getD_getElem?] at hp
 simp only [results,hrs]
 simp [hp,asAddr,hr]
theorem w_agalloc (E:AgT P t n zs) (hgd:o.guard = none) (ho:o.op = .alloc t)
  (k:∀ g w',w.heap.size≤g→Ext w w'→Fs w' g zs→wpList P ops Q rest (a.put o.dst (.pointer (some ⟨g,0,none⟩))) w'):wpList P ops Q (o :: rest) a w:=by
 obtain ⟨i0,hi,hz,hs⟩:=E.info
 refine wpList_plain hgd fun K hK => ?_
 have hk:=hK _ _ (k _ _ (Nat.le_refl _) ((Ext.refl w).alloc (.cells zs.toArray t)) (by simpa using Fs.alloc w zs.toArray t))
 unfold Oper.wp execOp
 simp [ho,Instr.alloc,newVar,newRow,zeroValue,typeInfo,hi,hz,Value.cells]
 exact hk
theorem setCells_at {w:World} {g off:Nat} {cs us:List Value} (h:Fs w g cs) (hb:off + us.length≤cs.length):Fs (w.setCells g off us) g (cs.take off ++ us ++ cs.drop (off + us.length)):=by
 have e:cs = cs.take off ++ (cs.drop off).take us.length ++ cs.drop (off + us.length):=by
  rw [List.append_assoc, ← List.drop_drop,List.take_append_drop,List.take_append_drop]
 exact setCells_fs us off (pre:=cs.take off) (post:=cs.drop (off + us.length)) (old:=(cs.drop off).take us.length) (by rw [← e];exact h) (by rw [List.length_take];omega) (by rw [List.length_take,List.length_drop];omega)
theorem w_agstore (E:AgT P t n zs) (x y:Operand) {g off:Nat} {cs us:List Value} (hgd:o.guard = none) (ho:o.op = .store t x y) (hd:o.dst = none) (hx:a.eval x = .pointer (some ⟨g,off,none⟩)) (hy:a.eval y = .agg us.toArray) (h:Fs w g cs) (hl':us.length = n) (hb:off + n≤cs.length) (h1:∀ u∈us,u.oneCell' = true)
  (k:∀ w',Mod (fun k=>k = g) w w'→Fs w' g (cs.take off ++ us ++ cs.drop (off + us.length))→wpList P ops Q rest a w'):wpList P ops Q (o :: rest) a w:=by
 obtain ⟨i0,hi,_,hs⟩:=E.info
 refine wpList_plain hgd fun K hK => ?_
 have hr:=run_storeCells_cells (P:=P) g off us 0 w (fun j hj=>by
  have hj':off + j < cs.length:=by omega
  have:=h.cell (List.getElem?_eq_getElem hj')
  simp [this]) (fun j _=>by simpa using h.frozen (off + j)) h1
 have hk:=hK _ _ (k _ (setCells_mod us off w g) (setCells_at h (by omega)))
 unfold Oper.wp execOp
 simp only [ho,hx,hy,Sem.run_bind,Instr.storeAt,storeVar,Instr.sureAddr,Sem.run_pure,Result.andThen_ok,sizeOf,typeInfo]
 simp [hi,hs,hl',Value.cells]
 simp at hr
 simp [hr,Oper.upon,hd,Act.put]
 exact hk
theorem w_agput (E:AgT P t n zs) (x y:Operand) {g:Nat} {cs us:List Value} (hgd:o.guard = none) (ho:o.op = .store t x y) (hd:o.dst = none) (hx:a.eval x = .pointer (some ⟨g,0,none⟩)) (hy:a.eval y = .agg us.toArray) (h:Fs w g cs) (hl:cs.length = n) (hl':us.length = n) (h1:∀ u∈us,u.oneCell' = true)
  (k:∀ w',Mod (fun k=>k = g) w w'→Fs w' g us→wpList P ops Q rest a w'):wpList P ops Q (o :: rest) a w :=
 w_agstore E x y hgd ho hd hx hy h hl' (by omega) h1 fun w' hm hf=>k w' hm (by
  rw [List.take_zero,List.nil_append,List.drop_eq_nil_of_le (by omega),List.append_nil] at hf;exact hf)
end
def mOff:Nat→Nat
 | 7=>8
 | n=>n
theorem m_field:∀ i,i < 8→fieldB Tryz.prog 42 i (mOff i) = true:=by
 intro i hi
 match i,hi with
 | 0,_=>exact (by kernel_rfl:fieldB Tryz.prog 42 0 0 = true)
 | 1,_=>exact (by kernel_rfl:fieldB Tryz.prog 42 1 1 = true)
 | 2,_=>exact (by kernel_rfl:fieldB Tryz.prog 42 2 2 = true)
 | 3,_=>exact (by kernel_rfl:fieldB Tryz.prog 42 3 3 = true)
 | 4,_=>exact (by kernel_rfl:fieldB Tryz.prog 42 4 4 = true)
 | 5,_=>exact (by kernel_rfl:fieldB Tryz.prog 42 5 5 = true)
 | 6,_=>exact (by kernel_rfl:fieldB Tryz.prog 42 6 6 = true)
 | 7,_=>exact (by kernel_rfl:fieldB Tryz.prog 42 7 8 = true)
section
variable {ops:Array Oper} {rest:List Oper} {o:Oper} {a:Act} {Q:Exit→Act→World→Prop} {w:World}
theorem runs_mfield {ρ:Operand→Value} (x:Operand) (g i:Nat) (ho:o.op = .fieldAddr 42 x i) (hx : ρ x = .pointer (some ⟨g,0,none⟩)) (hi:i < 8):Runs Tryz.prog o ρ w (.pointer (some ⟨g,mOff i,none⟩)):=runs_fieldN (m_field i hi) x g ho hx
theorem w_mfield (x:Operand) (g i:Nat) (hgd:o.guard = none) (ho:o.op = .fieldAddr 42 x i) (hx:a.eval x = .pointer (some ⟨g,0,none⟩)) (hi:i < 8)
  (k:wpList Tryz.prog ops Q rest (a.put o.dst (.pointer (some ⟨g,mOff i,none⟩))) w):wpList Tryz.prog ops Q (o :: rest) a w:=wpList_runs hgd (runs_mfield x g i ho hx hi) k
theorem run_mbuild (ps:List (Nat × Value)) (arr:Array (Nat × Value)) (harr:arr.toList = ps) (hone:∀ p∈ps,p.1 < 6∧p.2.cells = #[p.2]) (us:List Value) (hus:ps.foldl (fun acc p=>acc.set p.1 p.2) mZero = us):(Instr.build 42 arr).run Tryz.prog w = .ok (.agg us.toArray) w:=by
 obtain ⟨i0,hi,hz,hs⟩:=Tryz.stMsg.info
 have hfill:=fill_st ps mZero (fun i => [(0,1),(1,1),(2,1),(3,1),(4,1),(5,1),(6,2),(8,5)][i]?) fun p hp=>by
  obtain ⟨h1,h2⟩:=hone p hp
  refine ⟨?_,by show p.1 < 13;omega,h2⟩
  obtain ⟨n,v⟩:=p
  simp only at h1
  match n,h1 with
  | 0,_=>rfl
  | 1,_=>rfl
  | 2,_=>rfl
  | 3,_=>rfl
  | 4,_=>rfl
  | 5,_=>rfl
 rw [hus] at hfill
 unfold Instr.build
 have hzv:(zeroValue 42).run Tryz.prog w = .ok (.agg mZero.toArray) w:=by simp [zeroValue,typeInfo,hi,hz]
 rw [Sem.run_bind,hzv,Result.andThen_ok]
 dsimp only
 rw [Sem.run_bind,run_underlying Tryz.underlying42,Result.andThen_ok]
 simp only [Value.cells,harr]
 simp [Tryz.sizeOf3,Tryz.sizeOf37,Tryz.sizeOf40]
 rw [hfill]
 rfl
end
section
variable {P:Program} {ops:Array Oper} {a:Act} {w:World} {r:List Sp} {o:Oper} {t:TypeId} {n lo:Nat} {zs:List Value}
theorem op_agalloc (E:AgT P t n zs) (hle:lo≤w.heap.size) (hgd:o.guard = none) (ho:o.op = .alloc t):opOk P ops a w r o [] (Sp.fs lo zs):=by
 intro σ w' hx hg
 rw [if_pos (wanted_none hgd _)]
 obtain ⟨i0,hi,hz,hs⟩:=E.info
 have hf:Fs (w'.alloc (.cells zs.toArray t)) w'.heap.size zs:=by simpa using Fs.alloc w' zs.toArray t
 unfold Oper.wp execOp
 simp [ho,Instr.alloc,newVar,newRow,zeroValue,typeInfo,hi,hz,Value.cells]
 exact ⟨_,rfl,(Ext.refl _).alloc _,_,rfl,Nat.le_trans hle hx.size,hf⟩
end
end Go.Proofs.YtdoeoncmhaihbaaGreat
namespace Go.Proofs.YtdoeoncmhaihbaaGreat
set_option maxRecDepth 100000
open Go.RowKit
section
variable {P:Program} {ops:Array Oper} {rest:List Oper} {o:Oper} {a:Act} {Q:Exit→Act→World→Prop} {w:World} {t:TypeId} {n:Nat} {zs:List Value}
theorem runs_fieldB {ρ:Operand→Value} {i off b c:Nat} (hB:fieldB P t i off = true) (hc:c = b + off) (x:Operand) (g:Nat) (ho:o.op = .fieldAddr t x i) (hx : ρ x = .pointer (some ⟨g,b,none⟩)):Runs P o ρ w (.pointer (some ⟨g,c,none⟩)):=by
 subst hc
 unfold fieldB at hB
 cases hu:P.underlying t with
 | none=>rw [hu] at hB;cases hB
 | some u =>
  rw [hu] at hB
  cases u <;> try cases hB
  rename_i fs
  simp only at hB
  cases hfi:fs[i]? with
  | none=>rw [hfi] at hB;cases hB
  | some f =>
   rw [hfi] at hB
   simp only [Bool.and_eq_true,beq_iff_eq] at hB
   obtain ⟨h1,h2⟩:=hB
   cases hq:P.info? f.type with
   | none=>rw [hq] at h2;cases h2
   | some j =>
    have h3:j.size≠0:=by rw [hq] at h2;simpa using h2
    unfold Runs execOp
    have hadd:(⟨g,b,none⟩:Addr).add off = ⟨g,b + off,none⟩:=by unfold Addr.add;split <;> simp_all
    simp [ho,hx,Instr.fieldAt,Instr.sureAddr,run_underlying hu,hfi,fieldPlace,sizeOf,typeInfo,hq,h1,hadd,h3]
theorem w_fieldB {i off b c:Nat} (hB:fieldB P t i off = true) (hc:c = b + off) (x:Operand) (g:Nat) (hgd:o.guard = none) (ho:o.op = .fieldAddr t x i) (hx:a.eval x = .pointer (some ⟨g,b,none⟩))
  (k:wpList P ops Q rest (a.put o.dst (.pointer (some ⟨g,c,none⟩))) w):wpList P ops Q (o :: rest) a w:=wpList_runs hgd (runs_fieldB hB hc x g ho hx) k
theorem part_at {cs us:List Value} {off n:Nat} (h:(cs.drop off).take n = us):∀ (j:Nat) (u:Value),us[j]? = some u→cs[off + j]? = some u:=by
 intro j u hj
 subst h
 rw [List.getElem?_take] at hj
 split at hj
 ·rwa [List.getElem?_drop] at hj
 ·cases hj
theorem runs_loadB {ρ:Operand→Value} (E:StN P t n zs) (x:Operand) {g off:Nat} {cs us:List Value} (ho:o.op = .load t x) (hx : ρ x = .pointer (some ⟨g,off,none⟩)) (h:Fs w g cs) (hus:(cs.drop off).take n = us) (hl:us.length = n):Runs P o ρ w (.agg us.toArray) :=
 runs_loadN E x ho hx h hl (part_at hus)
theorem w_loadB (E:StN P t n zs) (x:Operand) {g off:Nat} {cs:List Value} (us:List Value) (hgd:o.guard = none) (ho:o.op = .load t x) (hx:a.eval x = .pointer (some ⟨g,off,none⟩)) (h:Fs w g cs) (hus:(cs.drop off).take n = us) (hl:us.length = n)
  (k:wpList P ops Q rest (a.put o.dst (.agg us.toArray)) w):wpList P ops Q (o :: rest) a w:=wpList_runs hgd (runs_loadB E x ho hx h hus hl) k
theorem w_storeB (E:StN P t n zs) (x y:Operand) {g off:Nat} {pre old us post:List Value} (hgd:o.guard = none) (ho:o.op = .store t x y) (hd:o.dst = none) (hx:a.eval x = .pointer (some ⟨g,off,none⟩)) (hy:a.eval y = .agg us.toArray) (h:Fs w g (pre ++ old ++ post)) (hp:pre.length = off) (hl:old.length = n) (hl':us.length = n) (h1:∀ u∈us,u.oneCell' = true)
  (k:∀ w',Mod (fun k=>k = g) w w'→Fs w' g (pre ++ us ++ post)→wpList P ops Q rest a w'):wpList P ops Q (o :: rest) a w:=by
 obtain ⟨i0,hi,_,hs⟩:=E.info
 refine wpList_plain hgd fun K hK => ?_
 have hr:=run_storeCells_cells (P:=P) g off us 0 w (fun j hj=>by
  have hj':off + j < (pre ++ old ++ post).length:=by simp;omega
  have:=h.cell (List.getElem?_eq_getElem hj')
  simp at this
  simp [this]) (fun j _=>by simpa using h.frozen _) h1
 have hk:=hK _ _ (k _ (setCells_mod us off w g) (setCells_fs us off h hp (by omega)))
 have hadd:∀ j,(⟨g,off,none⟩:Addr).add j = ⟨g,off + j,none⟩:=fun j=>by unfold Addr.add;split <;> simp_all
 unfold Oper.wp execOp
 simp only [ho,hx,hy,Sem.run_bind,Instr.storeAt,storeVar,Instr.sureAddr,Sem.run_pure,Result.andThen_ok,sizeOf,typeInfo]
 simp [hi,hs,hl',Value.cells]
 simp at hr
 simp [hr,Oper.upon,hd,Act.put]
 exact hk
end
section
variable {P:Program} {ops:Array Oper} {rest:List Oper} {o:Oper} {a:Act} {Q:Exit→Act→World→Prop} {w:World}
end
section
variable {P:Program} {ops:Array Oper} {rest:List Oper} {o:Oper} {a:Act} {Q:Exit→Act→World→Prop} {w:World} {t:TypeId}
theorem runs_pfieldB {ρ:Operand→Value} {i off:Nat} (hB:fieldB P t i off = true) (x:Operand) {p:Addr} (ho:o.op = .fieldAddr t x i) (hx : ρ x = .pointer (some p)):Runs P o ρ w (.pointer (some (p.add off))):=by
 unfold fieldB at hB
 cases hu:P.underlying t with
 | none=>rw [hu] at hB;cases hB
 | some u =>
  rw [hu] at hB
  cases u <;> try cases hB
  rename_i fs
  simp only at hB
  cases hfi:fs[i]? with
  | none=>rw [hfi] at hB;cases hB
  | some f =>
   rw [hfi] at hB
   simp only [Bool.and_eq_true,beq_iff_eq] at hB
   obtain ⟨h1,h2⟩:=hB
   cases hq:P.info? f.type with
   | none=>rw [hq] at h2;cases h2
   | some j =>
    have h3:j.size≠0:=by rw [hq] at h2;simpa using h2
    unfold Runs execOp
    simp [ho,hx,Instr.fieldAt,Instr.sureAddr,run_underlying hu,hfi,fieldPlace,sizeOf,typeInfo,hq,h1,h3]
theorem w_pfieldB {i off:Nat} (hB:fieldB P t i off = true) (x:Operand) {p:Addr} (hgd:o.guard = none) (ho:o.op = .fieldAddr t x i) (hx:a.eval x = .pointer (some p))
  (k:wpList P ops Q rest (a.put o.dst (.pointer (some (p.add off)))) w):wpList P ops Q (o :: rest) a w:=wpList_runs hgd (runs_pfieldB hB x ho hx) k
theorem w_rowload2 {ty:TypeId} (x:Operand) {p:Addr} {row:List Value} {i j:Nat} {u:Value} (hgd:o.guard = none) (ho:o.op = .load ty x) (hx:a.eval x = .pointer (some ((p.add i).add j))) (h:RowAt w p row) (hi:row[i + j]? = some u) (ha:∀ w,(isAgg ty).run P w = .ok false w)
  (k:wpList P ops Q rest (a.put o.dst u) w):wpList P ops Q (o :: rest) a w:=by
 rw [add_add'] at hx
 exact w_rowload x hgd ho hx h hi ha k
end
end Go.Proofs.YtdoeoncmhaihbaaGreat
