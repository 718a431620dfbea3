/- Blocks, their names and their bytes, as plain mathematics. No program. · The block of bytes, as plain mathematics over the list of bytes. No program. · A block, among a law's parameters. · The contracts of Right, Name, Slot, Miner of package block, and of the document's. · The contracts of Same, Copy and Bytes of package block, and of the document's; the chapter's example. · The contract of Copy of package block. -/
import Derived.Test.YtdoeoncmhaihbaaGreatPk05
import Derived.Test.YtdoeoncmhaihbaaGreatPk06
import Derived.Test.YtdoeoncmhaihbaaGreatFB
namespace Go.Proofs.YtdoeoncmhaihbaaGreat
set_option maxRecDepth 100000
structure NmOk (n:Int):Prop where
 pos:0≤n
 s1:1≤n / 65536
 s2:n / 65536≤4095
 m:n / 256 % 256≤6
instance (n:Int):Decidable (NmOk n):=decidable_of_iff (0≤n∧1≤n / 65536∧n / 65536≤4095∧n / 256 % 256≤6) ⟨fun ⟨a,b,c,d⟩=>⟨a,b,c,d⟩,fun ⟨a,b,c,d⟩=>⟨a,b,c,d⟩⟩
structure BlkD where
 slot:Int
 miner:Int
 var:Int
 parent:Int
 txs:List TxD
namespace BlkD
structure Right (b:BlkD):Prop where
 s:1≤b.slot∧b.slot≤4095
 m:0≤b.miner∧b.miner≤6
 v:0≤b.var∧b.var≤255
 p:b.parent = 0∨(NmOk b.parent∧b.parent / 65536 < b.slot)
 t:LsOk b.txs
instance (b:BlkD):Decidable b.Right:=decidable_of_iff ((1≤b.slot∧b.slot≤4095)∧(0≤b.miner∧b.miner≤6)∧(0≤b.var∧b.var≤255)∧(b.parent = 0∨(NmOk b.parent∧b.parent / 65536 < b.slot))∧LsOk b.txs)
 ⟨fun ⟨a,b,c,d,e⟩=>⟨a,b,c,d,e⟩,fun ⟨a,b,c,d,e⟩=>⟨a,b,c,d,e⟩⟩
def nm (b:BlkD):Int:=(b.slot * 256 + b.miner) * 256 + b.var
def name (b:BlkD):Int:=if b.Right then b.nm else 0
theorem Right.parts {b:BlkD} (h:b.Right):b.nm / 65536 = b.slot∧b.nm / 256 % 256 = b.miner∧b.nm % 256 = b.var∧NmOk b.nm:=by
 obtain ⟨⟨h1,h2⟩,⟨h3,h4⟩,⟨h5,h6⟩,_,_⟩:=h
 unfold nm
 exact ⟨by omega,by omega,by omega,⟨by omega,by omega,by omega,by omega⟩⟩
def nums (b:BlkD):List Int:=[b.slot,b.miner,b.var,b.parent] ++ lsNums b.txs
def bytes (b:BlkD):List Nat:=nuL b.nums
theorem Right.rdb {b:BlkD} (h:b.Right):Rdb b.nums:=by
 obtain ⟨⟨h1,h2⟩,⟨h3,h4⟩,⟨h5,h6⟩,h7,h8⟩:=h
 intro x hx
 rcases List.mem_append.1 hx with hx | hx
 ·simp at hx
  rcases hx with rfl|rfl|rfl|rfl
  ·omega
  ·omega
  ·omega
  ·rcases h7 with h7 | ⟨⟨h9,h10,h11,_⟩,_⟩ <;> omega
 ·exact h8.rdb x hx
theorem nums_inj {a b:BlkD} (h:a.nums = b.nums):a = b:=by
 cases a;cases b
 simp only [nums,List.cons_append,List.nil_append,List.cons.injEq,lsNums] at h
 obtain ⟨rfl,rfl,rfl,rfl,_,h⟩:=h
 rw [txNums_inj h]
end BlkD
def IsBlk (b:List Nat) (x:BlkD):Prop:=x.Right∧b = x.bytes
theorem IsBlk.one {b:List Nat} {x y:BlkD} (h:IsBlk b x) (k:IsBlk b y):x = y:=BlkD.nums_inj (nuL_inj h.1.rdb k.1.rdb (h.2.symm.trans k.2))
def BlkD.zero:BlkD:=⟨0,0,0,0, []⟩
def rdBlk (b:List Nat):Option BlkD:=match rns 4 b with
 | some ([s,m,v,p],rest)=>match rdLs rest with
  | some l=>if (⟨s,m,v,p,l⟩:BlkD).Right then some ⟨s,m,v,p,l⟩ else none
  | none=>none
 | _=>none
section
variable {b rest:List Nat} {s m v p:Int} {l:List TxD}
end
def bOr (o:Option BlkD):BlkD:=match o with | some x=>x | none=>BlkD.zero
def obE (o:Option BlkD):Nat:=match o with | some _=>0 | none=>71
end Go.Proofs.YtdoeoncmhaihbaaGreat
namespace Go.Proofs.YtdoeoncmhaihbaaGreat
set_option maxRecDepth 100000
open Go.RowKit Go.ChangeShapes Go.WideShapes Go.ChangeAt
instance:Inhabited BlkD:=⟨⟨0,0,0,0, []⟩⟩
structure BlkD.Raw (d:BlkD):Prop where
 slot : -9223372036854775808≤d.slot∧d.slot≤9223372036854775807
 miner : -9223372036854775808≤d.miner∧d.miner≤9223372036854775807
 var : -9223372036854775808≤d.var∧d.var≤9223372036854775807
 parent : -9223372036854775808≤d.parent∧d.parent≤9223372036854775807
 txs:∀ x∈d.txs,x.Raw
def BlkR (w:World) (row:List Value) (d:BlkD):Prop:=(∃ u4:Value,row = [.int .i64 d.slot, .int .i64 d.miner, .int .i64 d.var, .int .i64 d.parent,u4]∧Recs 2 TxR w u4 d.txs)∧d.Raw
theorem BlkR.stays:Stays BlkR:=fun _ _ _ _ ⟨⟨u4,h0,h5⟩,ho⟩ he=>⟨⟨u4,h0,h5.ext TxR.stays he⟩,ho⟩
theorem Tryz.stBlk:St Tryz.prog 40 5 [.int .i64 0, .int .i64 0, .int .i64 0, .int .i64 0, .slice none 0 0]:=St.of (by kernel_rfl) (by kernel_rfl) rfl
section
variable {H:Type} {enc:TypeId × Value→H} {W:World}
theorem rd_Blk {fuel:Nat} {cs:List Value} {y:DataW H × List MemPlace} (hlen:cs.length = 5) (hy:DataW.trod enc Tryz.prog W 0 (fun _=>true) true fuel 40 cs = some y) (hw:Fits Tryz.prog 40 y.1):∃ d,BlkR W cs d:=by
 obtain ⟨xs,m,_,rfl,_,hxl,hf⟩:=DataW.trod_struct Tryz.underlying40 hy
 match xs,hxl,cs,hlen with
 | [y0,y1,y2,y3,y4],_, [c0,c1,c2,c3,c4],_ =>
  have k0:DataW.trod enc Tryz.prog W 0 (fun _=>true) true m 3 [c0] = some y0:=hf 0 _ rfl
  have k1:DataW.trod enc Tryz.prog W 0 (fun _=>true) true m 3 [c1] = some y1:=hf 1 _ rfl
  have k2:DataW.trod enc Tryz.prog W 0 (fun _=>true) true m 3 [c2] = some y2:=hf 2 _ rfl
  have k3:DataW.trod enc Tryz.prog W 0 (fun _=>true) true m 3 [c3] = some y3:=hf 3 _ rfl
  have k4:DataW.trod enc Tryz.prog W 0 (fun _=>true) true m 38 [c4] = some y4:=hf 4 _ rfl
  simp only [List.map_cons,List.map_nil] at hw
  obtain ⟨a0,e0,_,b0⟩:=DataW.trod_int Tryz.underlying3 k0
  injection e0 with e0 _
  subst e0
  obtain ⟨a1,e1,_,b1⟩:=DataW.trod_int Tryz.underlying3 k1
  injection e1 with e1 _
  subst e1
  obtain ⟨a2,e2,_,b2⟩:=DataW.trod_int Tryz.underlying3 k2
  injection e2 with e2 _
  subst e2
  obtain ⟨a3,e3,_,b3⟩:=DataW.trod_int Tryz.underlying3 k3
  injection e3 with e3 _
  subst e3
  obtain ⟨l4,g4,_⟩:=rd_recs (d:=y4.1) (pl:=y4.2) (n:=2) (R:=TxR) Tryz.underlying38 (by kernel_rfl) (fun fuel cs y hlen hy hw=>rd_Tx hlen hy hw) k4 (hw.part Tryz.underlying40 (j:=4) rfl rfl)
  exact ⟨⟨a0,a1,a2,a3,l4⟩,⟨c4,rfl,g4⟩,⟨i64_wf b0,i64_wf b1,i64_wf b2,i64_wf b3,recs_ok_of g4 fun _ _ _ h=>h.2⟩⟩
end
end Go.Proofs.YtdoeoncmhaihbaaGreat
namespace Go.Proofs.YtdoeoncmhaihbaaGreat
set_option maxRecDepth 100000
open Go.RowKit
def NumOk (s m v:Int):Prop:=(1≤s∧s≤4095)∧(0≤m∧m≤6)∧(0≤v∧v≤255)
instance (s m v:Int):Decidable (NumOk s m v):=by unfold NumOk;infer_instance
def ParOk (p s:Int):Prop:=p = 0∨(NmOk p∧p / 65536 < s)
instance (p s:Int):Decidable (ParOk p s):=by unfold ParOk;infer_instance
theorem BlkD.right_iff (b:BlkD):b.Right ↔ NumOk b.slot b.miner b.var∧ParOk b.parent b.slot∧LsOk b.txs:=⟨fun h=>⟨⟨h.s,h.m,h.v⟩,h.p,h.t⟩,fun ⟨⟨h1,h2,h3⟩,h4,h5⟩=>⟨h1,h2,h3,h4,h5⟩⟩
def I64 (n:Int):Prop := -9223372036854775808≤n∧n≤9223372036854775807
theorem results_tmp4 {fn:Func} {t u v x:Tmp} (h:fn.results = #[.tmp t, .tmp u, .tmp v, .tmp x]) (tmps:Array Value) (P:Program) (w:World) :
  (results fn tmps).run P w = .ok (.tuple #[tmps.getD t undef,tmps.getD u undef,tmps.getD v undef,tmps.getD x undef]) w:=by
 simp [results,h]
def ptS (n:Int):Int:=if n < 0 then 0 else n / 65536
def ptM (n:Int):Int:=if n < 0 then 0 else n / 256 % 256
def ptV (n:Int):Int:=if n < 0 then 0 else n % 256
theorem ptS_of {n:Int} (h:0≤n):ptS n = n / 65536:=by rw [ptS,if_neg (by omega)]
theorem ptM_of {n:Int} (h:0≤n):ptM n = n / 256 % 256:=by rw [ptM,if_neg (by omega)]
theorem ptV_of {n:Int} (h:0≤n):ptV n = n % 256:=by rw [ptV,if_neg (by omega)]
theorem nmOk_pt {n:Int} (h:0≤n):NmOk n ↔ 1≤n / 65536∧n / 65536≤4095∧n / 256 % 256≤6:=⟨fun ⟨_,a,b,c⟩=>⟨a,b,c⟩,fun ⟨a,b,c⟩=>⟨h,a,b,c⟩⟩
set_option maxHeartbeats 800000 in
theorem Parts_any (n:Int) (h0 : -9223372036854775808≤n) (h1:n≤9223372036854775807) (w:World):Calls Tryz.prog 49 #[.int .i64 n] w fun e w'=>e = .returned (.tuple #[.int .i64 (ptS n), .int .i64 (ptM n), .int .i64 (ptV n), .bool (decide (NmOk n))])∧Ext w w':=by
 refine z2rz ?_
 by_cases hn:n < 0
 ·have t0:decide (n < 0) = true:=by simpa using hn
  have e1:=hide_ (show ptS n = 0 from if_pos hn)
  have e2:=hide_ (show ptM n = 0 from if_pos hn)
  have e3:=hide_ (show ptV n = 0 from if_pos hn)
  have e4:=hide_ (show decide (NmOk n) = false from decide_eq_false fun h=>by have:=h.pos;omega)
  clear hn
  go_enter Tryz.func49,Tryz.ntmps49
  go_wp2
  exact z2sz
 have t0:decide (n < 0) = false:=by simpa using hn
 have hn0:0≤n:=by omega
 have e1:=hide_ (ptS_of hn0)
 have e2:=hide_ (ptM_of hn0)
 have e3:=hide_ (ptV_of hn0)
 have hiff:=nmOk_pt hn0
 clear hn
 by_cases k1:1≤n / 65536
 ·have t1:decide (1≤n / 65536) = true:=by simp;omega
  by_cases k2:n / 65536≤4095
  ·have t2:decide (n / 65536≤4095) = true:=by simp;omega
   by_cases k3:n / 256 % 256≤6
   ·have t3:decide (n / 256 % 256≤6) = true:=by simp;omega
    have e4:=hide_ (show decide (NmOk n) = true from decide_eq_true (hiff.2 ⟨k1,k2,k3⟩))
    clear hiff k1 k2 k3
    go_enter Tryz.func49,Tryz.ntmps49
    go_wp2
    exact z2sz
   ·have t3:decide (n / 256 % 256≤6) = false:=by simp;omega
    have e4:=hide_ (show decide (NmOk n) = false from decide_eq_false (fun h=>k3 (by obtain ⟨_,_,_⟩:=hiff.1 h;assumption)))
    clear hiff k1 k2 k3
    go_enter Tryz.func49,Tryz.ntmps49
    go_wp2
    exact z2sz
  ·have t2:decide (n / 65536≤4095) = false:=by simp;omega
   have e4:=hide_ (show decide (NmOk n) = false from decide_eq_false (fun h=>k2 (by obtain ⟨_,_,_⟩:=hiff.1 h;assumption)))
   clear hiff k1 k2
   go_enter Tryz.func49,Tryz.ntmps49
   go_wp2
   exact z2sz
 ·have t1:decide (1≤n / 65536) = false:=by simp;omega
  have e4:=hide_ (show decide (NmOk n) = false from decide_eq_false (fun h=>k1 (by obtain ⟨_,_,_⟩:=hiff.1 h;assumption)))
  clear hiff k1
  go_enter Tryz.func49,Tryz.ntmps49
  go_wp2
  exact z2sz
set_option maxHeartbeats 800000 in
theorem refBRight_any {w:World} {u:Value} {b:BlkD} (hu0:Recs 2 TxR w u b.txs) (hp:I64 b.parent):Calls Tryz.prog 28 #[.agg #[.int .i64 b.slot, .int .i64 b.miner, .int .i64 b.var, .int .i64 b.parent,u]] w fun e w'=>e = .returned (.bool (decide b.Right))∧Ext w w':=by
 refine z2rz ?_
 have hu:=hide_ hu0
 replace hp:=hide_ hp
 have hiff:=b.right_iff
 by_cases h1:1≤b.slot
 ·have t1:decide (b.slot < 1) = false:=by simp;omega
  by_cases h2:b.slot≤4095
  ·have t2:decide (4095 < b.slot) = false:=by simp;omega
   by_cases h3:0≤b.miner
   ·have t3:decide (b.miner < 0) = false:=by simp;omega
    by_cases h4:b.miner≤6
    ·have t4:decide (6 < b.miner) = false:=by simp;omega
     by_cases h5:0≤b.var
     ·have t5:decide (b.var < 0) = false:=by simp;omega
      by_cases h6:b.var≤255
      ·have t6:decide (255 < b.var) = false:=by simp;omega
       have hnum:NumOk b.slot b.miner b.var:=⟨⟨h1,h2⟩,⟨h3,h4⟩,⟨h5,h6⟩⟩
       clear h1 h2 h3 h4 h5 h6
       by_cases h7:LsOk b.txs
       rotate_left
       ·have hle:=hide_ (show tlE b.txs = 61 from if_neg h7)
        have hdec:=hide_ (show decide b.Right = false from decide_eq_false fun h=>h7 (hiff.1 h).2.2)
        clear hiff h7 hnum
        go_enter Tryz.func28,Tryz.ntmps28
        go_wp2_with ((first | (refine z1fz ?_;intro g1 w1 hg1 hX f1) | (go_at_call 48;refine (refTList_any (v:=u) (hu.out.ext TxR.stays hX)).mono ?_;rintro e w4 ⟨v4,rfl,o4,hx⟩;rw [hle.out];replace f1:=f1.ext hx;replace hX:=hX.trans hx;clear hx o4) | refine zez ?_ | fail) <;> (try refine z0z ?_))
        go_ret
        exact z1dz
       have hle:=hide_ (show tlE b.txs = 0 from if_pos h7)
       cases h0:(b.parent == 0)
       rotate_left
       ·have hdec:=hide_ (show decide b.Right = true from decide_eq_true (hiff.2 ⟨hnum, .inl (by simpa using h0),h7⟩))
        clear hiff h7 hnum
        go_enter Tryz.func28,Tryz.ntmps28
        go_wp2_with ((first | (refine z1fz ?_;intro g1 w1 hg1 hX f1) | (go_at_call 48;refine (refTList_any (v:=u) (hu.out.ext TxR.stays hX)).mono ?_;rintro e w4 ⟨v4,rfl,o4,hx⟩;rw [hle.out];replace f1:=f1.ext hx;replace hX:=hX.trans hx;clear hx o4) | refine zez ?_ | fail) <;> (try refine z0z ?_))
        go_ret
        exact z1dz
       have hpar:ParOk b.parent b.slot ↔ NmOk b.parent∧ptS b.parent < b.slot:=by
        have hne:b.parent≠0:=by simpa using h0
        constructor
        ·rintro (k | ⟨k,k2⟩)
         ·exact absurd k hne
         ·exact ⟨k,by have:=k.pos;rw [ptS,if_neg (by omega)];exact k2⟩
        ·rintro ⟨k,k2⟩
         have:=k.pos
         rw [ptS,if_neg (by omega)] at k2
         exact .inr ⟨k,k2⟩
       obtain ⟨n,hns'⟩:∃ n,ptS b.parent = n:=⟨_,rfl⟩
       have hns:=hide_ hns'
       rw [hns'] at hpar
       by_cases h8:NmOk b.parent
       rotate_left
       ·have hok:=hide_ (decide_eq_false h8)
        have hdec:=hide_ (show decide b.Right = false from decide_eq_false fun h=>h8 (hpar.1 (hiff.1 h).2.1).1)
        clear hiff h7 h8 hnum hpar hns'
        go_enter Tryz.func28,Tryz.ntmps28
        go_wp2_with ((first | (refine z1fz ?_;intro g1 w1 hg1 hX f1) | (go_at_call 48;refine (refTList_any (v:=u) (hu.out.ext TxR.stays hX)).mono ?_;rintro e w4 ⟨v4,rfl,o4,hx⟩;rw [hle.out];replace f1:=f1.ext hx;replace hX:=hX.trans hx;clear hx o4) | (go_at_call 49;refine (Parts_any b.parent hp.out.1 hp.out.2 _).mono ?_;rintro e w5 ⟨rfl,hx⟩;rw [hok.out,hns.out];replace f1:=f1.ext hx;replace hX:=hX.trans hx;clear hx) | refine z20z ?_ | fail) <;> (try refine z0z ?_))
        go_ret
        exact z1dz
       have hok:=hide_ (decide_eq_true h8)
       by_cases h9:n < b.slot
       ·have t9:decide (n < b.slot) = true:=by simpa using h9
        have hdec:=hide_ (show decide b.Right = true from decide_eq_true (hiff.2 ⟨hnum,hpar.2 ⟨h8,h9⟩,h7⟩))
        clear hiff h7 h8 h9 hnum hpar hns'
        go_enter Tryz.func28,Tryz.ntmps28
        go_wp2_with ((first | (refine z1fz ?_;intro g1 w1 hg1 hX f1) | (go_at_call 48;refine (refTList_any (v:=u) (hu.out.ext TxR.stays hX)).mono ?_;rintro e w4 ⟨v4,rfl,o4,hx⟩;rw [hle.out];replace f1:=f1.ext hx;replace hX:=hX.trans hx;clear hx o4) | (go_at_call 49;refine (Parts_any b.parent hp.out.1 hp.out.2 _).mono ?_;rintro e w5 ⟨rfl,hx⟩;rw [hok.out,hns.out];replace f1:=f1.ext hx;replace hX:=hX.trans hx;clear hx) | refine z20z ?_ | fail) <;> (try refine z0z ?_))
        go_ret
        exact z1dz
       ·have t9:decide (n < b.slot) = false:=by simpa using h9
        have hdec:=hide_ (show decide b.Right = false from decide_eq_false fun h=>h9 (hpar.1 (hiff.1 h).2.1).2)
        clear hiff h7 h8 h9 hnum hpar hns'
        go_enter Tryz.func28,Tryz.ntmps28
        go_wp2_with ((first | (refine z1fz ?_;intro g1 w1 hg1 hX f1) | (go_at_call 48;refine (refTList_any (v:=u) (hu.out.ext TxR.stays hX)).mono ?_;rintro e w4 ⟨v4,rfl,o4,hx⟩;rw [hle.out];replace f1:=f1.ext hx;replace hX:=hX.trans hx;clear hx o4) | (go_at_call 49;refine (Parts_any b.parent hp.out.1 hp.out.2 _).mono ?_;rintro e w5 ⟨rfl,hx⟩;rw [hok.out,hns.out];replace f1:=f1.ext hx;replace hX:=hX.trans hx;clear hx) | refine z20z ?_ | fail) <;> (try refine z0z ?_))
        go_ret
        exact z1dz
      ·have t6:decide (255 < b.var) = true:=by simp;omega
       have hdec:=hide_ (show decide b.Right = false from decide_eq_false fun h=>h6 (by obtain ⟨⟨⟨_,_⟩,⟨_,_⟩,⟨_,_⟩⟩,_,_⟩:=hiff.1 h;assumption))
       clear hiff h1 h2 h3 h4 h5 h6
       go_enter Tryz.func28,Tryz.ntmps28
       go_wp2_with ((first | (refine z1fz ?_;intro g1 w1 hg1 hX f1) | refine zez ?_ | fail) <;> (try refine z0z ?_))
       go_ret
       exact z1dz
     ·have t5:decide (b.var < 0) = true:=by simp;omega
      have hdec:=hide_ (show decide b.Right = false from decide_eq_false fun h=>h5 (by obtain ⟨⟨⟨_,_⟩,⟨_,_⟩,⟨_,_⟩⟩,_,_⟩:=hiff.1 h;assumption))
      clear hiff h1 h2 h3 h4 h5
      go_enter Tryz.func28,Tryz.ntmps28
      go_wp2_with ((first | (refine z1fz ?_;intro g1 w1 hg1 hX f1) | refine zez ?_ | fail) <;> (try refine z0z ?_))
      go_ret
      exact z1dz
    ·have t4:decide (6 < b.miner) = true:=by simp;omega
     have hdec:=hide_ (show decide b.Right = false from decide_eq_false fun h=>h4 (by obtain ⟨⟨⟨_,_⟩,⟨_,_⟩,⟨_,_⟩⟩,_,_⟩:=hiff.1 h;assumption))
     clear hiff h1 h2 h3 h4
     go_enter Tryz.func28,Tryz.ntmps28
     go_wp2_with ((first | (refine z1fz ?_;intro g1 w1 hg1 hX f1) | refine zez ?_ | fail) <;> (try refine z0z ?_))
     go_ret
     exact z1dz
   ·have t3:decide (b.miner < 0) = true:=by simp;omega
    have hdec:=hide_ (show decide b.Right = false from decide_eq_false fun h=>h3 (by obtain ⟨⟨⟨_,_⟩,⟨_,_⟩,⟨_,_⟩⟩,_,_⟩:=hiff.1 h;assumption))
    clear hiff h1 h2 h3
    go_enter Tryz.func28,Tryz.ntmps28
    go_wp2_with ((first | (refine z1fz ?_;intro g1 w1 hg1 hX f1) | refine zez ?_ | fail) <;> (try refine z0z ?_))
    go_ret
    exact z1dz
  ·have t2:decide (4095 < b.slot) = true:=by simp;omega
   have hdec:=hide_ (show decide b.Right = false from decide_eq_false fun h=>h2 (by obtain ⟨⟨⟨_,_⟩,⟨_,_⟩,⟨_,_⟩⟩,_,_⟩:=hiff.1 h;assumption))
   clear hiff h1 h2
   go_enter Tryz.func28,Tryz.ntmps28
   go_wp2_with ((first | (refine z1fz ?_;intro g1 w1 hg1 hX f1) | refine zez ?_ | fail) <;> (try refine z0z ?_))
   go_ret
   exact z1dz
 ·have t1:decide (b.slot < 1) = true:=by simp;omega
  have hdec:=hide_ (show decide b.Right = false from decide_eq_false fun h=>h1 (by obtain ⟨⟨⟨_,_⟩,⟨_,_⟩,⟨_,_⟩⟩,_,_⟩:=hiff.1 h;assumption))
  clear hiff h1
  go_enter Tryz.func28,Tryz.ntmps28
  go_wp2_with ((first | (refine z1fz ?_;intro g1 w1 hg1 hX f1) | refine zez ?_ | fail) <;> (try refine z0z ?_))
  go_ret
  exact z1dz
set_option maxHeartbeats 1600000 in
theorem SEqual_any {W:World} {a b:Value} {l m:List TxD} (ha0:Recs 2 TxR W a l) (hb0:Recs 2 TxR W b m) :
  Calls Tryz.prog 100 #[a,b] W fun e w'=>e = .returned (.bool (decide (l = m)))∧Ext W w':=by
 refine z2rz ?_
 have hmax:l.length≤9223372036854775807:=by have:=ha0.len_le;unfold maxLen at this;omega
 have ha:=hide_ ha0
 have hb:=hide_ hb0
 clear ha0 hb0
 by_cases hlm:l.length = m.length
 rotate_left
 ·have t1:((l.length:Int) == (m.length:Int)) = false:=by rw [beq_eq_false_iff_ne];omega
  have hno:=hide_ (show decide (l = m) = false from decide_eq_false fun h=>hlm (by rw [h]))
  clear hlm
  go_enter Tryz.func100,Tryz.ntmps100
  go_wp2_with ((first | refine z43z ?_ | fail) <;> (try refine z0z ?_))
  go_ret
  exact Keep.intro ⟨by rw [hno.out];rfl,Ext.refl _⟩
 have t1:((l.length:Int) == (m.length:Int)) = true:=by rw [beq_iff_eq];omega
 replace hlm:=hide_ hlm
 go_enter Tryz.func100,Tryz.ntmps100
 go_wp2_with ((first | refine z43z ?_ | fail) <;> (try refine z0z ?_))
 go_loopw [13] (fun i wr => ∃ k:Nat,i = .int .i64 k∧k≤l.length∧Hid (l.take k = m.take k)∧Ext W wr) (fun i _=>l.length - (intOf i).toNat)
 case atStart=>exact ⟨0,rfl,Nat.zero_le _,hide_ rfl,Ext.refl _⟩
 case round =>
  obtain ⟨k,rfl,hk,heq,hX⟩:=hrel
  by_cases hge:l.length≤k
  ·obtain rfl:k = l.length:=by omega
   have t2:decide (l.length < l.length) = false:=by simp
   have hyes:=hide_ (show decide (l = m) = true from decide_eq_true (by have:=heq.out;rw [List.take_length] at this;rw [hlm.out,List.take_length] at this;exact this))
   clear hge heq
   go_wp2
   go_ret
   exact Keep.intro ⟨by rw [hyes.out];rfl,hX⟩
  have hlt:k < l.length:=by omega
  have t2:decide (k < l.length) = true:=by simpa using hlt
  obtain ⟨d,hd0⟩:∃ d,l[k]? = some d:=⟨_,List.getElem?_eq_getElem hlt⟩
  obtain ⟨d2,hd20⟩:∃ d2,m[k]? = some d2:=⟨_,List.getElem?_eq_getElem (by have:=hlm.out;omega)⟩
  have hd:=hide_ hd0
  have hd2:=hide_ hd20
  clear hge hd0 hd20
  by_cases hdd:d = d2
  ·have hc:=hide_ (show (!decide (d = d2)) = false from by simp [hdd])
   have heq2:=hide_ (show l.take (k + 1) = m.take (k + 1) from by rw [List.take_add_one,List.take_add_one,heq.out,hd.out,hd2.out,hdd])
   clear heq hdd
   go_wp2
   refine zmz ?_;intro wd hxd;have ha1:=ha.out.ext TxR.stays (hX.trans hxd);have hb1:=hb.out.ext TxR.stays (hX.trans hxd)
   refine z57z ?_
   intro wN hxN
   refine z3bz ?_
   intro q18 hq18 q19 hq19 q22 hq22 q23 hq23
   refine z0z ?_
   replace hX:=hX.trans (hxd.trans hxN)
   clear hxd hxN ha1 hb1 hq18 hq19 hq22 hq23
   go_wp2
   go_roundw
   case rel=>exact ⟨k + 1,by go_num,by omega,heq2,hX⟩
   case measure=>simp [intOf];omega
  ·have hc:=hide_ (show (!decide (d = d2)) = true from by simp [hdd])
   have hno:=hide_ (show decide (l = m) = false from decide_eq_false fun h=>hdd (by subst h;have:=hd.out.symm.trans hd2.out;injection this))
   clear heq hdd
   go_wp2
   refine zmz ?_;intro wd hxd;have ha1:=ha.out.ext TxR.stays (hX.trans hxd);have hb1:=hb.out.ext TxR.stays (hX.trans hxd)
   refine z5fz ?_
   intro wN hxN
   refine z3bz ?_
   intro q18 hq18 q19 hq19 q22 hq22 q23 hq23
   refine z0z ?_
   replace hX:=hX.trans (hxd.trans hxN)
   go_wp2
   go_ret
   exact Keep.intro ⟨by rw [hno.out];rfl,hX⟩
def BlkD.same (a b:BlkD):Bool:=a.slot == b.slot && a.miner == b.miner && a.var == b.var && a.parent == b.parent && decide (a.txs = b.txs)
theorem BlkD.same_iff {a b:BlkD}:a.same b = true ↔ a = b:=by
 cases a;cases b;simp [BlkD.same,and_assoc]
theorem Recs.one' {α:Type} {n:Nat} {R:World→List Value → α→Prop} {w:World} {v:Value} {l:List α} (h:Recs n R w v l):v.oneCell' = true:=by
 obtain ⟨_,⟨A,c,rfl,_⟩,_⟩:=h;rfl
set_option maxHeartbeats 1600000 in
theorem BSame_any {w:World} {u u2:Value} {b b2:BlkD} (h1:Recs 2 TxR w u b.txs) (h2:Recs 2 TxR w u2 b2.txs):Calls Tryz.prog 85 #[.agg #[.int .i64 b.slot, .int .i64 b.miner, .int .i64 b.var, .int .i64 b.parent,u], .agg #[.int .i64 b2.slot, .int .i64 b2.miner, .int .i64 b2.var, .int .i64 b2.parent,u2]] w fun e w'=>e = .returned (.bool (b.same b2))∧Ext w w':=by
 refine z2rz ?_
 replace h1:=hide_ h1
 replace h2:=hide_ h2
 cases c0:(b.slot == b2.slot)
 ·have hdec:=hide_ (show b.same b2 = false from by simp [BlkD.same,c0])
  go_enter Tryz.func85,Tryz.ntmps85
  go_wp2_with ((first | (refine z1lz ?_;intro g1 w1 hg1 hX f1) | (refine z1hz ?_;intro g2 w2 hg2 hx f2;replace f1:=f1.ext hx;replace hX:=hX.trans hx;clear hx) | refine z1jz ?_ | fail) <;> (try refine z0z ?_))
  go_ret
  exact z1dz
 cases c1:(b.miner == b2.miner)
 ·have hdec:=hide_ (show b.same b2 = false from by simp [BlkD.same,c1])
  go_enter Tryz.func85,Tryz.ntmps85
  go_wp2_with ((first | (refine z1lz ?_;intro g1 w1 hg1 hX f1) | (refine z1hz ?_;intro g2 w2 hg2 hx f2;replace f1:=f1.ext hx;replace hX:=hX.trans hx;clear hx) | refine z1jz ?_ | fail) <;> (try refine z0z ?_))
  go_ret
  exact z1dz
 cases c2:(b.var == b2.var)
 ·have hdec:=hide_ (show b.same b2 = false from by simp [BlkD.same,c2])
  go_enter Tryz.func85,Tryz.ntmps85
  go_wp2_with ((first | (refine z1lz ?_;intro g1 w1 hg1 hX f1) | (refine z1hz ?_;intro g2 w2 hg2 hx f2;replace f1:=f1.ext hx;replace hX:=hX.trans hx;clear hx) | refine z1jz ?_ | fail) <;> (try refine z0z ?_))
  go_ret
  exact z1dz
 cases c3:(b.parent == b2.parent)
 ·have hdec:=hide_ (show b.same b2 = false from by simp [BlkD.same,c3])
  go_enter Tryz.func85,Tryz.ntmps85
  go_wp2_with ((first | (refine z1lz ?_;intro g1 w1 hg1 hX f1) | (refine z1hz ?_;intro g2 w2 hg2 hx f2;replace f1:=f1.ext hx;replace hX:=hX.trans hx;clear hx) | refine z1jz ?_ | fail) <;> (try refine z0z ?_))
  go_ret
  exact z1dz
 obtain ⟨q,hq0⟩:∃ q,decide (b.txs = b2.txs) = q:=⟨_,rfl⟩
 have hdec:=hide_ (show b.same b2 = q from by simp [BlkD.same,c0,c1,c2,c3,hq0])
 have hq:=hide_ hq0
 clear hq0
 go_enter Tryz.func85,Tryz.ntmps85
 go_wp2_with ((first | (refine z1lz ?_;intro g1 w1 hg1 hX f1) | (refine z1hz ?_;intro g2 w2 hg2 hx f2;replace f1:=f1.ext hx;replace hX:=hX.trans hx;clear hx) | (go_at_call 100;refine (SEqual_any (a:=u) (b:=u2) (h1.out.ext TxR.stays hX) (h2.out.ext TxR.stays hX)).mono ?_;rintro e w3 ⟨rfl,hx⟩;rw [hq.out];replace hX:=hX.trans hx;clear hx) | refine z1jz ?_ | fail) <;> (try refine z0z ?_))
 go_ret
 exact z1dz
set_option maxHeartbeats 1600000 in
theorem refBSame_any {w:World} {u u2:Value} {b b2:BlkD} (h1:Recs 2 TxR w u b.txs) (h2:Recs 2 TxR w u2 b2.txs):Calls Tryz.prog 47 #[.agg #[.int .i64 b.slot, .int .i64 b.miner, .int .i64 b.var, .int .i64 b.parent,u], .agg #[.int .i64 b2.slot, .int .i64 b2.miner, .int .i64 b2.var, .int .i64 b2.parent,u2]] w fun e w'=>e = .returned (.bool (b.same b2))∧Ext w w':=by
 refine z2rz ?_
 replace h1:=hide_ h1
 replace h2:=hide_ h2
 cases c0:(b.slot == b2.slot)
 ·have hdec:=hide_ (show b.same b2 = false from by simp [BlkD.same,c0])
  go_enter Tryz.func47,Tryz.ntmps47
  go_wp2_with ((first | (refine z1lz ?_;intro g1 w1 hg1 hX f1) | (refine z1hz ?_;intro g2 w2 hg2 hx f2;replace f1:=f1.ext hx;replace hX:=hX.trans hx;clear hx) | refine z1jz ?_ | fail) <;> (try refine z0z ?_))
  go_ret
  exact z1dz
 cases c1:(b.miner == b2.miner)
 ·have hdec:=hide_ (show b.same b2 = false from by simp [BlkD.same,c1])
  go_enter Tryz.func47,Tryz.ntmps47
  go_wp2_with ((first | (refine z1lz ?_;intro g1 w1 hg1 hX f1) | (refine z1hz ?_;intro g2 w2 hg2 hx f2;replace f1:=f1.ext hx;replace hX:=hX.trans hx;clear hx) | refine z1jz ?_ | fail) <;> (try refine z0z ?_))
  go_ret
  exact z1dz
 cases c2:(b.var == b2.var)
 ·have hdec:=hide_ (show b.same b2 = false from by simp [BlkD.same,c2])
  go_enter Tryz.func47,Tryz.ntmps47
  go_wp2_with ((first | (refine z1lz ?_;intro g1 w1 hg1 hX f1) | (refine z1hz ?_;intro g2 w2 hg2 hx f2;replace f1:=f1.ext hx;replace hX:=hX.trans hx;clear hx) | refine z1jz ?_ | fail) <;> (try refine z0z ?_))
  go_ret
  exact z1dz
 cases c3:(b.parent == b2.parent)
 ·have hdec:=hide_ (show b.same b2 = false from by simp [BlkD.same,c3])
  go_enter Tryz.func47,Tryz.ntmps47
  go_wp2_with ((first | (refine z1lz ?_;intro g1 w1 hg1 hX f1) | (refine z1hz ?_;intro g2 w2 hg2 hx f2;replace f1:=f1.ext hx;replace hX:=hX.trans hx;clear hx) | refine z1jz ?_ | fail) <;> (try refine z0z ?_))
  go_ret
  exact z1dz
 obtain ⟨q,hq0⟩:∃ q,decide (b.txs = b2.txs) = q:=⟨_,rfl⟩
 have hdec:=hide_ (show b.same b2 = q from by simp [BlkD.same,c0,c1,c2,c3,hq0])
 have hq:=hide_ hq0
 clear hq0
 go_enter Tryz.func47,Tryz.ntmps47
 go_wp2_with ((first | (refine z1lz ?_;intro g1 w1 hg1 hX f1) | (refine z1hz ?_;intro g2 w2 hg2 hx f2;replace f1:=f1.ext hx;replace hX:=hX.trans hx;clear hx) | (go_at_call 65;refine (Same_any (a:=u) (b:=u2) (h1.out.ext TxR.stays hX) (h2.out.ext TxR.stays hX)).mono ?_;rintro e w3 ⟨rfl,hx⟩;rw [hq.out];replace hX:=hX.trans hx;clear hx) | refine z1jz ?_ | fail) <;> (try refine z0z ?_))
 go_ret
 exact z1dz
theorem recs_rows {w:World} {v:Value} {l:List TxD} (h:Recs 2 TxR w v l):SlS w v 2 (l.map TxD.row)∧∀ t∈l,t.Raw:=by
 obtain ⟨rows,hs,hl,hR⟩:=id h
 have e:rows = l.map TxD.row:=by
  refine List.ext_getElem (by simpa using hl) fun k h1 h2 => ?_
  obtain ⟨h3,_⟩:=hR k _ _ (List.getElem?_eq_getElem h1) (List.getElem?_eq_getElem (by omega))
  rw [h3,List.getElem_map];rfl
 exact ⟨e ▸ hs,recs_ok_of h fun _ _ _ h=>h.2⟩
end Go.Proofs.YtdoeoncmhaihbaaGreat
