/- The contracts of the document's Key and Of, of layer 2. · Copy and Bytes of the document's messages. · Who a core can be; names of blocks. · Cores as the statements hold them: all that they change is new since a world. · What a law on cores needs besides: a core that is told nothing new; records' fields in a region. · What the law that no two decide two keeps besides its cores: the config, the names, who is wrong. · One more core, one more journal. · One act of the law that no two decide two: what a core hands out is few; what it does to the law's memory. · v[i].f and v[i].f = u, where the call owns v, a slice of records of n one-cell fields. · What the law that no two decide two does to its memory, step by step: cores and journals made; a core made anew; a journal told anew; messages sent; decisions told. · One act of the law that no two decide two: what a core was told, and what it does. -/
import Derived.Test.YtdoeoncmhaihbaaGreatPk08
import Derived.Test.YtdoeoncmhaihbaaGreatMg7
import Derived.Test.YtdoeoncmhaihbaaGreatPk21
import Derived.Test.YtdoeoncmhaihbaaGreatPk18
import Derived.Test.YtdoeoncmhaihbaaGreatPk20
import Derived.Test.YtdoeoncmhaihbaaGreatFB
namespace Go.Proofs.YtdoeoncmhaihbaaGreat
set_option maxRecDepth 100000
open Go.RowKit
theorem own_zero1 {w:World} {base n:Nat} {e:TypeId} {v:Value} {len:Nat} {cs:List Value} (h:w.ownsRow base e n v len cs):w.ownsRow 0 e n v len cs:=by
 obtain ⟨hl,hn | ⟨g,cap,cur,hv,hg,rest⟩⟩:=h
 ·exact ⟨hl, .inl hn⟩
 ·exact ⟨hl, .inr ⟨g,cap,cur,hv,Nat.zero_le _,rest⟩⟩
section
variable {P:Program} {ops:Array Oper} {rest:List Oper} {a:Act} {Q:Exit→Act→World→Prop} {w:World} {o:Oper} {t e:TypeId} {n bytes:Nat} {z:Value}
theorem w_nempty1 (E:ElN P t e n bytes z) (hgd:o.guard = none) (ho:o.op = .buildSlice t 0 #[]) (k:∀ ad w',Ext w w'→wpList P ops Q rest (a.put o.dst (.slice (some ad) 0 0)) w'):wpList P ops Q (o :: rest) a w:=by
 refine wpList_plain hgd fun K hK => ?_
 have hr:=run_nbuild (P:=P) E [] #[] rfl (by simp) 0 rfl (by omega) w
 unfold Oper.wp execOp
 simp only [ho]
 simp only [List.map_toArray,List.map_nil,Sem.run_bind,hr,Result.andThen_ok]
 exact hK _ _ (k _ _ ((Ext.refl w).alloc _))
theorem w_nclone1 (E:ElN P t e n bytes z) (x y:Operand) {ad:Addr} {s:Value} {ys:List (List Value)} (hgd:o.guard = none) (ho:o.op = .call { callee := .builtin .append,args:=#[x,y],argTypes:=#[t,t] }) (hv:a.eval x = .slice (some ad) 0 0) (hy:a.eval y = s)
  (hs:SlS w s n ys) (hb:ys.length * bytes≤140737488355328)
  (k:∀ v' w',Ext w w'→((ys = []∧v' = .slice (some ad) 0 0)∨RowN (fun k=>w.heap.size≤k) w' e n v' ys)→wpList P ops Q rest (a.put o.dst v') w'):wpList P ops Q (o :: rest) a w:=by
 refine wpList_plain hgd fun K hK => ?_
 obtain ⟨i0,hi,hz,hsz,hby⟩:=E.info
 by_cases h0:ys = []
 ·subst h0
  obtain ⟨A,c,rfl,_⟩:=hs
  have hr:(Builtin.append_ #[t,t] o.type #[.slice (some ad) 0 0, .slice A ([]:List (List Value)).length c]).run P w = .ok (.slice (some ad) 0 0) w:=by
   cases A with
   | none=>simp [Builtin.append_,run_underlying E.hu,sizeOf,typeInfo,hi,Builtin.lenOf,Builtin.firstCells,storeCells]
   | some b=>simp [Builtin.append_,run_underlying E.hu,sizeOf,typeInfo,hi,Builtin.lenOf,Builtin.firstCells,storeCells,loadCells,loadCellsFrom]
  unfold Oper.wp execOp
  simp only [ho,resolve,invoke,builtin,Sem.run_bind,Sem.run_pure,Result.andThen_ok,List.map_toArray,List.map_cons,List.map_nil,hv,hy,hr]
  exact hK _ _ (k _ _ (Ext.refl w) (.inl ⟨rfl,rfl⟩))
 ·obtain ⟨b,c,rfl,heach,hcells⟩:=slS_cells hs h0 E.pos
  have hpos:=List.length_pos_iff.2 h0
  have hm:0 + ys.length≤maxLen:=by
   have:=Nat.le_mul_of_pos_right ys.length E.bpos
   unfold maxLen;omega
  obtain ⟨v',w',hr,h2,h3⟩:=run_append_arg_grows (P:=P) w t o.type e i0 z n bytes E.hu hi hz hsz hby E.zs E.pos ad 0 0 [] (by simp) (fun j u hj=>by simp at hj) b ys.length c ys.flatten (flat_len heach) hcells (by omega) hm (by simpa using hb)
  rw [List.nil_append,Nat.zero_add] at h2
  unfold Oper.wp execOp
  simp only [ho,resolve,invoke,builtin,Sem.run_bind,Sem.run_pure,Result.andThen_ok,List.map_toArray,List.map_cons,List.map_nil,hv,hy,hr]
  exact hK _ _ (k v' w' ⟨h3.os,h3.tape,h3.output,h3.size,fun i hi=>h3.block i hi (by simp)⟩ (.inr ⟨own_zero1 h2,heach,fun k hk=>(h2.lt k hk).1⟩))
end
def TxF (lo:Nat) (w:World) (v:Value) (l:List TxD):Prop:=(l = []∧∃ ad,v = .slice (some ad) 0 0)∨OwnT lo w v l
theorem TxF.recs {lo:Nat} {w:World} {v:Value} {l:List TxD} (h:TxF lo w v l):Recs 2 TxR w v l:=by
 rcases h with ⟨rfl,ad,rfl⟩ | h
 ·exact ⟨[],⟨some ad,0,rfl,Nat.le_refl _,by unfold maxLen;omega,fun k row hk=>by simp at hk⟩,rfl,fun k row d hk=>by simp at hk⟩
 ·exact h.recs
theorem TxF.ext {lo:Nat} {w w':World} {v:Value} {l:List TxD} (h:TxF lo w v l) (he:Ext w w'):TxF lo w' v l:=h.imp_right fun h=>h.ext he
theorem TxF.mod {lo:Nat} {w w':World} {v:Value} {l:List TxD} {G:Nat→Prop} (h:TxF lo w v l) (hm:Mod G w w') (hG:(l = []∧∃ ad,v = .slice (some ad) 0 0)∨∀ k,v.ownBlock = some k→¬ G k):TxF lo w' v l:=by
 rcases h with h | h
 ·exact .inl h
 ·rcases hG with hG | hG
  ·exact .inl hG
  ·exact .inr (h.mod hm hG)
theorem TxF.of {lo:Nat} {w w':World} {v:Value} {l:List TxD} {ad:Addr} (hlo:lo≤w.heap.size) (hr:∀ t∈l,t.Raw) (h:(l.map TxD.row = []∧v = .slice (some ad) 0 0)∨RowN (fun k=>w.heap.size≤k) w' 37 2 v (l.map TxD.row)):TxF lo w' v l:=by
 rcases h with ⟨h1,h2⟩ | h
 ·exact .inl ⟨List.map_eq_nil_iff.1 h1,ad,h2⟩
 ·exact .inr (OwnT.of h hr fun k hk=>Nat.le_trans hlo hk)
theorem TxF.ne {w w':World} {v:Value} {l:List TxD} {ad:Addr} {g:Nat} (h:(l.map TxD.row = []∧v = .slice (some ad) 0 0)∨RowN (fun k=>w.heap.size≤k) w' 37 2 v (l.map TxD.row)) (hg:g < w.heap.size):(l = []∧∃ ad,v = .slice (some ad) 0 0)∨∀ k,v.ownBlock = some k→¬ k = g:=by
 rcases h with ⟨h1,h2⟩ | h
 ·exact .inl ⟨List.map_eq_nil_iff.1 h1,ad,h2⟩
 ·exact .inr fun k hk e=>by have:=h.inF k hk;omega
theorem add_off (g off k:Nat):(⟨g,off,none⟩:Addr).add k = ⟨g,off + k,none⟩:=by unfold Addr.add;split <;> simp_all
theorem w_bfield {ops:Array Oper} {rest:List Oper} {o:Oper} {a:Act} {Q:Exit→Act→World→Prop} {w:World} (x:Operand) (g off:Nat) (hgd:o.guard = none) (ho:o.op = .fieldAddr 40 x 4) (hx:a.eval x = .pointer (some ⟨g,off,none⟩))
  (k:wpList Tryz.prog ops Q rest (a.put o.dst (.pointer (some ⟨g,off + 4,none⟩))) w):wpList Tryz.prog ops Q (o :: rest) a w:=by
 refine w_pfield Tryz.stBlk x 4 hgd ho hx (by omega) ?_
 rw [add_off];exact k
set_option maxHeartbeats 800000 in
theorem refMCopy_any {w:World} {u:Value} {d:MsgD} (hu:Recs 2 TxR w u d.bk.txs) (hf:d.bk.txs.length * 16≤140737488355328):Calls Tryz.prog 10 #[.agg (mRow d u).toArray] w fun e w' => ∃ u',e = .returned (.agg (mRow d u').toArray)∧Recs 2 TxR w' u' d.bk.txs∧Ext w w':=by
 refine z2rz ?_
 have hs:=hide_ (recs_rows hu).1
 have hraw:=hide_ (recs_rows hu).2
 have hbig:=hide_ (show (d.bk.txs.map TxD.row).length * 16≤140737488355328 from by rw [List.length_map];exact hf)
 clear hu hf
 go_enter Tryz.func10,Tryz.ntmps10
 go_wp2_with ((first | (refine z1sz ?_;intro g1 w1 hg1 hX f1) | ((with_reducible refine at_alloc ?_);refine w_agalloc Tryz.agMsg rfl rfl ?_;intro g2 w2 hg2 hx f2;have hne:=hide_ (show ¬ g2 = g1 from (by have:=f1.lt;omega));replace hg2:=Nat.le_trans hX.size hg2;replace f1:=f1.ext hx;replace hX:=hX.trans hx;clear hx) | ((with_reducible refine at_lit ?_);refine w_nempty1 Tryz.elTxN rfl rfl ?_;intro ad w3 hx;replace f1:=f1.ext hx;replace f2:=f2.ext hx;replace hX:=hX.trans hx;clear hx) | refine zwz ?_ | ((with_reducible refine at_field ?_);refine w_bfield _ _ 8 rfl rfl rfl ?_) | ((with_reducible refine at_load ?_);have ce:=o3;clear ce;refine w_loadN Tryz.stMsg _ (mRow d v3) rfl rfl rfl f1 rfl mself_at ?_) | ((with_reducible refine at_load ?_);(try refine w_yes _ _ _ rfl rfl rfl ?_);refine w_fload _ rfl rfl rfl f1 rfl (agg_of (by kernel_rfl)) ?_) | ((with_reducible refine at_bi ?_);refine w_nclone1 Tryz.elTxN _ _ rfl rfl rfl rfl (hs.out.ext hX) hbig.out ?_;intro v3 w3 hx hor;have o3:=TxF.of (lo:=w.heap.size) (l:=d.bk.txs) hX.size hraw.out hor;have n1:=TxF.ne hor f1.lt;have n2:=TxF.ne hor f2.lt;clear hor;replace f1:=f1.ext hx;replace f2:=f2.ext hx;replace hX:=hX.trans hx;clear hx) | ((with_reducible refine at_store ?_);refine w_fstore (u:=v3) _ _ rfl rfl rfl rfl rfl f1 (show 12 < 13 from by decide) (oneCell_cells o3.recs.one') o3.recs.one' (by kernel_rfl) ?_;intro w9 hm f9;replace f1:Fs w9 g1 (mRow d v3):=f9;replace f2:=f2.mod hm hne.out;replace o3:=o3.mod hm n1;replace hX:=hm.after hX (fun i e=>e ▸ hg1);clear hm f9) | ((with_reducible refine at_store ?_);refine w_agput Tryz.agMsg (us:=mRow d v3) _ _ rfl rfl rfl rfl rfl f2 rfl rfl (m_one o3.recs.one') ?_;intro w9 hm f9;replace f2:=f9;replace o3:=o3.mod hm n2;replace hX:=hm.after hX (fun i e=>e ▸ hg2);clear hm f9) | fail) <;> (try refine z0z ?_))
 exact bodyPost_ret (ag_one Tryz.agMsg rfl rfl f2 rfl) rfl (Keep.intro ⟨v3,rfl,o3.recs,hX⟩)
end Go.Proofs.YtdoeoncmhaihbaaGreat
namespace Go.Proofs.YtdoeoncmhaihbaaGreat
set_option maxHeartbeats 3200000
set_option maxRecDepth 100000
open Go.RowKit
structure CfD.Ok (g:CfD):Prop where
 st:StOk g.st
 me:0≤g.me
 ml:g.me < (g.st.length:Int)
 b1:1≤g.base
 b2:g.base≤100
 m1:1≤g.most
 m2:g.most≤1000
instance (g:CfD):Decidable g.Ok:=if h:(StOk g.st∧0≤g.me∧g.me < (g.st.length:Int))∧(1≤g.base∧g.base≤100)∧1≤g.most∧g.most≤1000 then .isTrue ⟨h.1.1,h.1.2.1,h.1.2.2,h.2.1.1,h.2.1.2,h.2.2.1,h.2.2.2⟩ else .isFalse fun q=>h ⟨⟨q.st,q.me,q.ml⟩,⟨q.b1,q.b2⟩,q.m1,q.m2⟩
theorem right_any {w:World} {u:Value} {g:CfD} (hu0:Ints w u g.st) :
  Calls Tryz.prog 5 #[.agg (g.row u).toArray] w fun e w'=>e = .returned (.bool (decide g.Ok))∧Ext w w':=by
 refine z2rz ?_
 have hu:=hide_ hu0
 have hX:=Ext.refl w
 clear hu0
 by_cases q0:StOk g.st
 rotate_left
 ·obtain ⟨k,hk,hkz⟩:∃ k:Int,((chk g.st:Nat):Int) = k∧(k == 0) = false:=⟨_,rfl,by rw [show chk g.st = 31 from if_neg q0];rfl⟩
  have hchk:=hide_ hk
  obtain ⟨ln,hm0⟩:∃ n:Int,(g.st.length:Int) = n:=⟨_,rfl⟩
  have hm:=hide_ hm0
  have hdec:=hide_ (show decide g.Ok = false from decide_eq_false fun ⟨r0,r1,r2,r3,r4,r5,r6⟩=>q0 r0)
  clear q0 hm0 hk
  go_enter Tryz.func5,Tryz.ntmps5
  go_wp2_with ((first | go_big_skip | (refine z36z ?_;intro g1 w1 hg1 hx f1;replace hX:=hX.trans hx;clear hx) | refine z10z ?_ | (go_at_call 18;refine (RefCheck_any _ _ _ (hu.out.ext hX)).mono ?_;rintro e w2 ⟨rfl,rfl⟩;rw [hchk.out]) | (refine z25z ?_;rw [hm.out]) | fail) <;> (try refine z0z ?_))
  go_ret
  exact z1dz
 obtain ⟨k,hk,hkz⟩:∃ k:Int,((chk g.st:Nat):Int) = k∧(k == 0) = true:=⟨_,rfl,by rw [show chk g.st = 0 from if_pos q0];rfl⟩
 have hchk:=hide_ hk
 by_cases q1:0≤g.me
 rotate_left
 ·have t1:decide (0≤g.me) = false:=decide_eq_false q1
  obtain ⟨ln,hm0⟩:∃ n:Int,(g.st.length:Int) = n:=⟨_,rfl⟩
  have hm:=hide_ hm0
  have hdec:=hide_ (show decide g.Ok = false from decide_eq_false fun ⟨r0,r1,r2,r3,r4,r5,r6⟩=>q1 r1)
  clear q0 q1 hm0 hk
  go_enter Tryz.func5,Tryz.ntmps5
  go_wp2_with ((first | go_big_skip | (refine z36z ?_;intro g1 w1 hg1 hx f1;replace hX:=hX.trans hx;clear hx) | refine z10z ?_ | (go_at_call 18;refine (RefCheck_any _ _ _ (hu.out.ext hX)).mono ?_;rintro e w2 ⟨rfl,rfl⟩;rw [hchk.out]) | (refine z25z ?_;rw [hm.out]) | fail) <;> (try refine z0z ?_))
  go_ret
  exact z1dz
 have t1:decide (0≤g.me) = true:=decide_eq_true q1
 by_cases q2:g.me < (g.st.length:Int)
 rotate_left
 ·obtain ⟨ln,hm0⟩:∃ n:Int,(g.st.length:Int) = n:=⟨_,rfl⟩
  have hm:=hide_ hm0
  have t2:decide (g.me < ln) = false:=decide_eq_false (by omega)
  have hdec:=hide_ (show decide g.Ok = false from decide_eq_false fun ⟨r0,r1,r2,r3,r4,r5,r6⟩=>q2 r2)
  clear q0 q1 q2 hm0 hk
  go_enter Tryz.func5,Tryz.ntmps5
  go_wp2_with ((first | go_big_skip | (refine z36z ?_;intro g1 w1 hg1 hx f1;replace hX:=hX.trans hx;clear hx) | refine z10z ?_ | (go_at_call 18;refine (RefCheck_any _ _ _ (hu.out.ext hX)).mono ?_;rintro e w2 ⟨rfl,rfl⟩;rw [hchk.out]) | (refine z25z ?_;rw [hm.out]) | fail) <;> (try refine z0z ?_))
  go_ret
  exact z1dz
 obtain ⟨ln,hm0⟩:∃ n:Int,(g.st.length:Int) = n:=⟨_,rfl⟩
 have hm:=hide_ hm0
 have t2:decide (g.me < ln) = true:=decide_eq_true (by omega)
 by_cases q3:1≤g.base
 rotate_left
 ·have t3:decide (1≤g.base) = false:=decide_eq_false q3
  have hdec:=hide_ (show decide g.Ok = false from decide_eq_false fun ⟨r0,r1,r2,r3,r4,r5,r6⟩=>q3 r3)
  clear q0 q1 q2 q3 hm0 hk
  go_enter Tryz.func5,Tryz.ntmps5
  go_wp2_with ((first | go_big_skip | (refine z36z ?_;intro g1 w1 hg1 hx f1;replace hX:=hX.trans hx;clear hx) | refine z10z ?_ | (go_at_call 18;refine (RefCheck_any _ _ _ (hu.out.ext hX)).mono ?_;rintro e w2 ⟨rfl,rfl⟩;rw [hchk.out]) | (refine z25z ?_;rw [hm.out]) | fail) <;> (try refine z0z ?_))
  go_ret
  exact z1dz
 have t3:decide (1≤g.base) = true:=decide_eq_true q3
 by_cases q4:g.base≤100
 rotate_left
 ·have t4:decide (g.base≤100) = false:=decide_eq_false q4
  have hdec:=hide_ (show decide g.Ok = false from decide_eq_false fun ⟨r0,r1,r2,r3,r4,r5,r6⟩=>q4 r4)
  clear q0 q1 q2 q3 q4 hm0 hk
  go_enter Tryz.func5,Tryz.ntmps5
  go_wp2_with ((first | go_big_skip | (refine z36z ?_;intro g1 w1 hg1 hx f1;replace hX:=hX.trans hx;clear hx) | refine z10z ?_ | (go_at_call 18;refine (RefCheck_any _ _ _ (hu.out.ext hX)).mono ?_;rintro e w2 ⟨rfl,rfl⟩;rw [hchk.out]) | (refine z25z ?_;rw [hm.out]) | fail) <;> (try refine z0z ?_))
  go_ret
  exact z1dz
 have t4:decide (g.base≤100) = true:=decide_eq_true q4
 by_cases q5:1≤g.most
 rotate_left
 ·have t5:decide (1≤g.most) = false:=decide_eq_false q5
  have hdec:=hide_ (show decide g.Ok = false from decide_eq_false fun ⟨r0,r1,r2,r3,r4,r5,r6⟩=>q5 r5)
  clear q0 q1 q2 q3 q4 q5 hm0 hk
  go_enter Tryz.func5,Tryz.ntmps5
  go_wp2_with ((first | go_big_skip | (refine z36z ?_;intro g1 w1 hg1 hx f1;replace hX:=hX.trans hx;clear hx) | refine z10z ?_ | (go_at_call 18;refine (RefCheck_any _ _ _ (hu.out.ext hX)).mono ?_;rintro e w2 ⟨rfl,rfl⟩;rw [hchk.out]) | (refine z25z ?_;rw [hm.out]) | fail) <;> (try refine z0z ?_))
  go_ret
  exact z1dz
 have t5:decide (1≤g.most) = true:=decide_eq_true q5
 by_cases q6:g.most≤1000
 rotate_left
 ·have t6:decide (g.most≤1000) = false:=decide_eq_false q6
  have hdec:=hide_ (show decide g.Ok = false from decide_eq_false fun ⟨r0,r1,r2,r3,r4,r5,r6⟩=>q6 r6)
  clear q0 q1 q2 q3 q4 q5 q6 hm0 hk
  go_enter Tryz.func5,Tryz.ntmps5
  go_wp2_with ((first | go_big_skip | (refine z36z ?_;intro g1 w1 hg1 hx f1;replace hX:=hX.trans hx;clear hx) | refine z10z ?_ | (go_at_call 18;refine (RefCheck_any _ _ _ (hu.out.ext hX)).mono ?_;rintro e w2 ⟨rfl,rfl⟩;rw [hchk.out]) | (refine z25z ?_;rw [hm.out]) | fail) <;> (try refine z0z ?_))
  go_ret
  exact z1dz
 have t6:decide (g.most≤1000) = true:=decide_eq_true q6
 have hdec:=hide_ (show decide g.Ok = true from decide_eq_true ⟨q0,q1,q2,q3,q4,q5,q6⟩)
 clear q0 q1 q2 q3 q4 q5 q6 hm0 hk
 go_enter Tryz.func5,Tryz.ntmps5
 go_wp2_with ((first | go_big_skip | (refine z36z ?_;intro g1 w1 hg1 hx f1;replace hX:=hX.trans hx;clear hx) | refine z10z ?_ | (go_at_call 18;refine (RefCheck_any _ _ _ (hu.out.ext hX)).mono ?_;rintro e w2 ⟨rfl,rfl⟩;rw [hchk.out]) | (refine z25z ?_;rw [hm.out]) | fail) <;> (try refine z0z ?_))
 go_ret
 exact z1dz
def Held (w0 w:World) (p:Nat) (c:CoD):Prop:=Ext w0 w∧∃ S,Cor S w p c∧(∀ k,S k≤6)∧∀ k,S k≠0→w0.heap.size≤k
section
variable {w0 wb w w':World} {p:Nat} {c d:CoD} {kn:List Int} {kv:Value}
theorem Held.x (h:Held w0 w p c):Ext w0 w:=h.1
theorem Held.ext (h:Held w0 w p c) (he:Ext w w'):Held w0 w' p c:=by
 obtain ⟨h1,S,h2,h3,h4⟩:=h
 exact ⟨h1.trans he,S,h2.ext he,h3,h4⟩
end
def JN (w:World) (g:CfD) (m:Nat) (x:Value) (w':World):Prop :=
 match m with
 | 0=>Ext w w'
 | 1=>Ext w w'∧OwnI w.heap.size w' x []
 | 2=>Ext w w'∧Ints w' x g.st
 | _ => ∃ p,x = .pointer (some ⟨p,0,none⟩)∧Held w w' p (CoD.new g.me.toNat g.st g.base g.most)
theorem JN.ext {w:World} {g:CfD} {m:Nat} {x:Value} {w':World} (h:JN w g m x w') {k:Nat} (hm:m≤k) (hk:k≤2:=by omega):Ext w w':=by
 rcases (show m = 0∨m = 1∨m = 2 by omega) with rfl|rfl|rfl
 ·exact h
 ·exact h.1
 ·exact h.1
end Go.Proofs.YtdoeoncmhaihbaaGreat
namespace Go.Proofs.YtdoeoncmhaihbaaGreat
set_option maxRecDepth 100000
open Go.RowKit
section
variable {w0 wb w w':World} {p:Nat} {c d:CoD} {kn:List Int} {kv:Value}
end
end Go.Proofs.YtdoeoncmhaihbaaGreat
namespace Go.Proofs.YtdoeoncmhaihbaaGreat
set_option maxRecDepth 100000
open Go.RowKit
structure Env (Z:Nat→Nat) (W w:World) (g3 g10:Nat) (r3 r10:List Value) (v7:Value) (ks:List Int):Prop where
 x:Ext W w
 low:∀ q,Z q≠0→W.heap.size≤q
 f3:Fs w g3 r3
 z3:Z g3 = 0
 f10:Fs w g10 r10
 z10:Z g10 = 0
 o7:Ints w v7 ks
 z7:∀ q,v7.ownBlock = some q→Z q = 0
section
variable {Z Z':Nat→Nat} {W w w':World} {g3 g10:Nat} {r3 r10:List Value} {v7:Value} {ks:List Int} {G:Nat→Prop}
theorem Env.mod (h:Env Z W w g3 g10 r3 r10 v7 ks) (hm:Mod G w w') (hG:∀ q,G q→Z q≠0):Env Z W w' g3 g10 r3 r10 v7 ks where
 x:=hm.after h.x fun q hq=>h.low q (hG q hq)
 low:=h.low
 f3:=h.f3.mod hm fun q=>hG _ q h.z3
 z3:=h.z3
 f10:=h.f10.mod hm fun q=>hG _ q h.z10
 z10:=h.z10
 o7:=ints_mod h.o7 hm fun q hq g=>hG _ g (h.z7 q hq)
 z7:=h.z7
theorem Env.ext (h:Env Z W w g3 g10 r3 r10 v7 ks) (hx:Ext w w'):Env Z W w' g3 g10 r3 r10 v7 ks:=h.mod (hx.mod fun _=>False) fun _=>False.elim
theorem Env.zone (h:Env Z W w g3 g10 r3 r10 v7 ks) {n:Nat} (hn:W.heap.size≤n) (h3:g3 < n) (h10:g10 < n) (h7:∀ q,v7.ownBlock = some q→q < n) (hZ:∀ q,q < n→Z' q = Z q):Env Z' W w g3 g10 r3 r10 v7 ks where
 x:=h.x
 low q hq:=by
  by_cases e:q < n
  ·rw [hZ q e] at hq;exact h.low q hq
  ·omega
 f3:=h.f3
 z3:=(hZ _ h3).trans h.z3
 f10:=h.f10
 z10:=(hZ _ h10).trans h.z10
 o7:=h.o7
 z7 q hq:=(hZ _ (h7 q hq)).trans (h.z7 q hq)
theorem NetW.start {pv jv:Value} {cs:Nat→CoD} (hp:Row (fun k=>Z k = 1) w 32 pv []) (hj:Row (fun k=>Z k = 2) w 34 jv []) (hb:∀ k,Z k≠0→k < w.heap.size) :
  NetW Z w pv jv (.slice none 0 0) (.slice none 0 0) [] [] (fun _ _=>0) cs (fun _ => []) [] [] where
 bnd:=hb
 prow:=hp
 jrow:=hj
 core _ _ h:=by simp at h
 own _ _ h:=absurd rfl h
 jour _ _ h:=by simp at h
 snt:=SntR.of (RowN.nil _ _ _)
 dcd:=Row.nil _ _
end
end Go.Proofs.YtdoeoncmhaihbaaGreat
namespace Go.Proofs.YtdoeoncmhaihbaaGreat
set_option maxRecDepth 100000
open Go.RowKit
section
variable {Z:Nat→Nat} {w w1 w':World} {pv pv' jv jv' tv dv:Value} {ps:List Nat} {js:List Value} {S:Nat→Nat→Nat} {cs:Nat→CoD} {J:Nat→List RcV} {M:List MsV} {D:List Int}
theorem snoc_get {α:Type} {l:List α} {x y : α} {j:Nat} (h:(l ++ [x])[j]? = some y):l[j]? = some y∨(j = l.length∧x = y):=by
 by_cases e:j < l.length
 ·rw [List.getElem?_append_left e] at h;exact .inl h
 ·rw [List.getElem?_append_right (by omega)] at h
  by_cases q:j - l.length = 0
  ·rw [q] at h
   exact .inr ⟨by omega,by simpa using h⟩
  ·rw [List.getElem?_eq_none (by simp;omega)] at h;cases h
theorem NetW.pushP (h:NetW Z w pv jv tv dv ps js S cs J M D) {n p:Nat} (hn:ps.length = n) {S':Nat→Nat} {d:CoD} (hx:Ext w w1) (hc:Cor S' w1 p d) (h6:∀ k,S' k≤6) (hnew:∀ k,S' k≠0→w.heap.size≤k) (hm:Mod (fun k=>Z k = 1) w1 w')
  (hr:Row (grow (fun k=>Z k = 1) w1 w') w' 32 pv' ((ps ++ [p]).map fun p=>.pointer (some ⟨p,0,none⟩))) :
  NetW (fun k=>if S' k≠0 then 10 + 2 * n else if w1.heap.size≤k∧k < w'.heap.size then 1 else Z k) w' pv' jv tv dv (ps ++ [p]) js (fun j=>if j = n then S' else S j) (fun j=>if j = n then d else cs j) J M D:=by
 have hz:∀ {k y:Nat},Z k = y→y≠0→(if S' k≠0 then 10 + 2 * n else if w1.heap.size≤k∧k < w'.heap.size then 1 else Z k) = y:=fun {k y} e e0=>by
  have h1:=h.bnd k (by omega)
  have h2:=hx.size
  rw [if_neg fun q=>by have:=hnew k q;omega,if_neg (by omega)];exact e
 have hb1:∀ k,S' k≠0→k < w1.heap.size:=fun k hk=>by
  obtain ⟨_,_,_,_,_,hc⟩:=hc
  exact hc.bnd k hk
 have h1:=h.ext hx
 refine ⟨fun k hk => ?_,hr.mono fun k hk => ?_,(h1.jrow.mod hm fun k hk g=>by omega).mono fun k hk=>hz hk (by omega),fun j r hr => ?_,fun j k hk => ?_,fun j v hv=>((h1.jour j v hv).mod hm fun k hk g=>by omega).mono fun k hk=>hz hk (by omega),(h1.snt.mod hm fun k hk g=>by omega).mono fun k hk=>hz hk (by omega),(h1.dcd.mod hm fun k hk g=>by omega).mono fun k hk=>hz hk (by omega)⟩
 ·by_cases q:S' k≠0
  ·exact Nat.lt_of_lt_of_le (hb1 k q) hm.size
  ·by_cases q2:w1.heap.size≤k∧k < w'.heap.size
   ·exact q2.2
   ·exact Nat.lt_of_lt_of_le (h1.bnd k fun e=>hk ((if_neg q).trans ((if_neg q2).trans e))) hm.size
 ·rcases hk with hk | hk
  ·exact hz hk (by omega)
  ·exact (if_neg fun q=>by have:=hb1 k q;omega).trans (if_pos hk)
 ·rcases snoc_get hr with hr | ⟨e,rfl⟩
  ·have hj:j < ps.length:=(List.getElem?_eq_some_iff.1 hr).1
   simp only [if_neg (show ¬ j = n by omega)]
   exact ⟨(h1.core j r hr).1.mod hm fun k q1 _ g=>by have:=h.own j k (by omega);omega,(h1.core j r hr).2⟩
  ·simp only [if_pos (show j = n by omega)]
   exact ⟨hc.mod hm fun k q1 _ g=>by have g':Z k = 1:=g;have:=h.bnd k (by omega);have:=hnew k (by omega);omega,h6⟩
 ·by_cases e:j = n
  ·simp only [if_pos e] at hk
   rw [if_pos hk,e]
  ·simp only [if_neg e] at hk
   exact hz (h.own j k hk) (by omega)
theorem NetW.pushJ (h:NetW Z w pv jv tv dv ps js S cs J M D) {n:Nat} (hn:js.length = n) {v:Value} (hx:Ext w w1) (hv:RowN (fun k=>w.heap.size≤k∧k < w1.heap.size) w1 83 5 v []) (hJ:J n = []) (hm:Mod (fun k=>Z k = 2) w1 w')
  (hr:Row (grow (fun k=>Z k = 2) w1 w') w' 34 jv' (js ++ [v])) :
  NetW (fun k=>if w.heap.size≤k∧k < w1.heap.size then 11 + 2 * n else if w1.heap.size≤k∧k < w'.heap.size then 2 else Z k) w' pv jv' tv dv ps (js ++ [v]) S cs J M D:=by
 have hz:∀ {k y:Nat},Z k = y→y≠0→(if w.heap.size≤k∧k < w1.heap.size then 11 + 2 * n else if w1.heap.size≤k∧k < w'.heap.size then 2 else Z k) = y:=fun {k y} e e0=>by
  have h1:=h.bnd k (by omega)
  have h2:=hx.size
  rw [if_neg (by omega),if_neg (by omega)];exact e
 have h1:=h.ext hx
 refine ⟨fun k hk => ?_,(h1.prow.mod hm fun k hk g=>by omega).mono fun k hk=>hz hk (by omega),hr.mono fun k hk => ?_,fun j r hr=>⟨(h1.core j r hr).1.mod hm fun k q1 _ g=>by have:=h.own j k (by omega);omega,(h1.core j r hr).2⟩,fun j k hk=>hz (h.own j k hk) (by omega),fun j u hu => ?_,(h1.snt.mod hm fun k hk g=>by omega).mono fun k hk=>hz hk (by omega),(h1.dcd.mod hm fun k hk g=>by omega).mono fun k hk=>hz hk (by omega)⟩
 ·by_cases q:w.heap.size≤k∧k < w1.heap.size
  ·exact Nat.lt_of_lt_of_le q.2 hm.size
  ·by_cases q2:w1.heap.size≤k∧k < w'.heap.size
   ·exact q2.2
   ·exact Nat.lt_of_lt_of_le (h1.bnd k fun e=>hk ((if_neg q).trans ((if_neg q2).trans e))) hm.size
 ·rcases hk with hk | hk
  ·exact hz hk (by omega)
  ·exact (if_neg (by omega)).trans (if_pos hk)
 ·rcases snoc_get hu with hu | ⟨e,rfl⟩
  ·exact ((h1.jour j u hu).mod hm fun k hk g=>by omega).mono fun k hk=>hz hk (by omega)
  ·have e2:j = n:=by omega
   subst e2
   rw [hJ]
   exact (hv.mod hm fun k hk g=>by have g':Z k = 2:=g;have:=h.bnd k (by omega);omega).mono fun k hk=>if_pos hk
theorem zpush {S':Nat→Nat} (hnew:∀ k,S' k≠0→w.heap.size≤k) (hs:w.heap.size≤w1.heap.size) {n:Nat} (q:Nat) (hq:q < w.heap.size):(if S' q≠0 then n else if w1.heap.size≤q∧q < w'.heap.size then 1 else Z q) = Z q:=by
 rw [if_neg fun e=>by have:=hnew q e;omega,if_neg (by omega)]
variable {Z':Nat→Nat} {W:World} {g3 g10:Nat} {r3 r10:List Value} {v7:Value} {ks:List Int} {G:Nat→Prop}
theorem Env.upd (h:Env Z W w g3 g10 r3 r10 v7 ks) (hks:ks ≠ []) (hm:Mod G w w') (hG:∀ q,G q→Z q≠0) (hZ:∀ q,q < w.heap.size→Z' q = Z q):Env Z' W w' g3 g10 r3 r10 v7 ks :=
 (h.mod hm hG).zone h.x.size h.f3.lt h.f10.lt (fun _ hq=>Sl.block_lt h.o7 (by cases ks with | nil=>exact absurd rfl hks | cons x l=>simp [i64s]) hq) hZ
end
end Go.Proofs.YtdoeoncmhaihbaaGreat
namespace Go.Proofs.YtdoeoncmhaihbaaGreat
set_option maxRecDepth 100000
open Go.RowKit
def wrg (K:List Int):List Value:=(List.range 7).map fun i:Nat=>.bool (K.any fun b=>decide (b = (i:Int)))
theorem wrg_nil:wrg [] = [.bool false, .bool false, .bool false, .bool false, .bool false, .bool false, .bool false]:=rfl
theorem wrg_len (K:List Int):(wrg K).length = 7:=by simp [wrg]
theorem wrg_get (K:List Int) {i:Nat} (hi:i < 7):(wrg K)[i]? = some (.bool (K.any fun b=>decide (b = (i:Int)))):=by
 unfold wrg
 rw [List.getElem?_map,List.getElem?_range hi];rfl
theorem wrg_off {K:List Int} {b:Int} (h:¬ (0≤b∧b < 7)):wrg (K ++ [b]) = wrg K:=by
 unfold wrg
 refine List.map_congr_left fun i hi => ?_
 rw [List.mem_range] at hi
 rw [List.any_append]
 have:([b].any fun b=>decide (b = (i:Int))) = false:=by simp;omega
 rw [this,Bool.or_false]
theorem wrg_set {K:List Int} {n:Nat} (h:n < 7):wrg (K ++ [(n:Int)]) = (wrg K).set n (.bool true):=by
 refine List.ext_getElem? fun i => ?_
 by_cases hi:i < 7
 ·rw [wrg_get _ hi,List.any_append]
  by_cases e:n = i
  ·subst e
   rw [List.getElem?_set_self (by rw [wrg_len];exact hi)]
   simp
  ·rw [List.getElem?_set_ne e,wrg_get _ hi]
   have:([(n:Int)].any fun b=>decide (b = (i:Int))) = false:=by simp;omega
   rw [this,Bool.or_false]
 ·rw [List.getElem?_eq_none (by rw [wrg_len];omega),List.getElem?_eq_none (by rw [List.length_set,wrg_len];omega)]
theorem wrg_one (K:List Int):∀ u∈wrg K,u.oneCell' = true:=by
 intro u hu
 obtain ⟨_,_,rfl⟩:=List.mem_map.1 hu
 rfl
section
variable {c:CoD} {m:MsV} {kn:List Int} {i0 tip:Int}
theorem handle_few (h:Spk NV i0 c) (hm:3≤m.kd→m.Ok NV) (ho:c.out = []):(c.handle m kn).out.length≤10018020:=by
 unfold CoD.handle
 split
 ·rw [ho];simp
 ·rename_i hc
  split
  ·split
   ·rw [ho];simp
   ·show (c.out ++ [_]).length≤_
    rw [ho];simp
  ·have hs:=spk_hear h (hm (by omega))
   have h1:=settle_len (kn:=kn) hs NV.zero
   have h2:=mu_room (c.hear m) hs.1.rv.1 hs.1.rs.1
   rw [hear_out,ho] at h1
   have h3:(c.hear m).mu≤10018015:=h2
   generalize (c.hear m).mu = a at h1 h3
   simp only [List.length_nil] at h1
   omega
theorem again_few (c:CoD):c.again.length≤3:=by
 unfold CoD.again
 rw [List.length_append,List.length_append]
 show _≤1 + 1 + 1
 refine Nat.add_le_add (Nat.add_le_add ?_ ?_) ?_
 ·split
  ·split <;> simp
  ·simp
 ·split <;> simp
 ·split <;> simp
theorem resend_few (c:CoD):c.resend.out.length≤c.out.length + 3:=by
 unfold CoD.resend
 split
 ·exact Nat.le_add_right _ _
 ·show (c.out ++ _).length≤_
  rw [List.length_append,List.length_map]
  have h1:=List.length_filter_le (fun m => !(c.out.any fun a=>decide (a.m = m))) c.again
  have h2:=again_few c
  omega
theorem tick_few (h:Spk NV i0 c) (ht:NV tip) (ho:c.out = []):(c.tick kn tip).out.length≤10018020:=by
 unfold CoD.tick
 split
 ·rw [ho];simp
 ·rename_i hd
  have h1:=spk_tip h ht
  have h3:=spk_tock h1 (show c.dec.length≤1000 by omega)
  have h4:=settle_len (kn:=kn) h3 NV.zero
  have h5:=mu_room _ h3.1.rv.1 h3.1.rs.1
  have h6:(CoD.tock { c with tip:=tip }).out.length≤1:=Nat.le_trans (tock_len (c:={ c with tip:=tip })) (by show c.out.length + 1≤1;rw [ho];simp)
  have h7:=resend_few ((CoD.tock { c with tip:=tip }).settle kn)
  generalize (CoD.tock { c with tip:=tip }).mu = a at h4 h5
  omega
end
theorem jour_len (me:Nat) (L:List AcV):(jour me L).length≤L.length:=List.length_filterMap_le _ _
theorem handle_idle {c:CoD} {m:MsV} {kn:List Int} (h:m.kd < 3):c.handle m kn = c:=if_pos (.inl h)
structure RS (W w:World) (g:CfD) (bl:List Int) (g3 g10:Nat) (ug v7 pv jv tv dv:Value) (Z:Nat→Nat) (S:Nat→Nat→Nat) (ps:List Nat) (js:List Value) (cs:Nat→CoD) (L:List AcV) (J:Nat→List RcV) (M:List MsV) (D:List Int):Prop where
 n:NetW Z w pv jv tv dv ps js S cs J M D
 e:Env Z W w g3 g10 (g.row ug) (wrg bl) v7 [65536,131072,196608]
 a:AgInv (fun j=>inn bl j = true) NV g.st g.base g.most cs L J M D
 pl:ps.length = g.st.length
 jl:js.length = g.st.length
 jb:∀ i,(J i).length≤L.length
 fm:∀ a∈L,0≤a.m.fm
section
variable {Z:Nat→Nat} {W w0 w w':World} {g:CfD} {bl:List Int} {g3 g10 g17:Nat} {ug v7 pv jv tv dv ov:Value} {ps:List Nat} {js:List Value} {S:Nat→Nat→Nat} {cs:Nat→CoD} {L:List AcV} {J:Nat→List RcV} {M:List MsV} {D:List Int} {r3 r10:List Value} {ks:List Int} {r17:List Value}
theorem RS.ext (h:RS W w g bl g3 g10 ug v7 pv jv tv dv Z S ps js cs L J M D) (hx:Ext w w'):RS W w' g bl g3 g10 ug v7 pv jv tv dv Z S ps js cs L J M D:=⟨h.n.ext hx,h.e.ext hx,h.a,h.pl,h.jl,h.jb,h.fm⟩
theorem RS.core (h:RS W w g bl g3 g10 ug v7 pv jv tv dv Z S ps js cs L J M D) {i:Nat} (hi:i < g.st.length) (hb:¬ inn bl i = true):(cs i).out = []∧Spk NV (cs i).idx (cs i)∧(CoD.new i g.st g.base g.most).Like (cs i):=by
 obtain ⟨h1,h2,h3⟩:=h.a.clus.core i hi hb
 exact ⟨h2,h3.2,h1⟩
structure AfterA (W w:World) (g:CfD) (bl:List Int) (g3 g10 g17 i:Nat) (ug v7 pv jv tv dv cv av:Value) (r17:List Value) (ps:List Nat) (js:List Value) (L:List AcV) (J:Nat→List RcV) (M:List MsV) (D:List Int) (ac:List AcV):Prop where
 ex:∃ (Z:Nat→Nat) (S:Nat→Nat→Nat) (cs:Nat→CoD) (ps':List Nat) (p:Nat) (F:Nat→Prop),cv = .pointer (some ⟨p,0,none⟩)∧ps'[i]? = some p∧ps'.length = ps.length∧NetW Z w pv jv tv dv ps' js S cs J M D∧Env Z W w g3 g10 (g.row ug) (wrg bl) v7 [65536,131072,196608] ∧
  AgInv (fun j=>inn bl j = true) NV g.st g.base g.most cs (L ++ ac) (fun j=>if j = i then J i ++ jour i ac else J j) (M ++ ac.map (·.m)) D∧Fs w g17 r17∧Z g17 = 0∧RowN F w 53 14 av (ac.map acRow)∧(∀ k,F k→Z k = 0∧k < w.heap.size)∧ac.length≤10018020∧∀ a∈L ++ ac,0≤a.m.fm
theorem RowN.tight {F:Nat→Prop} {e:TypeId} {n:Nat} {v:Value} {rows:List (List Value)} (h:RowN F w e n v rows):RowN (fun k=>F k∧k < w.heap.size) w e n v rows:=⟨h.own,h.each,fun k hk=>⟨h.inF k hk,h.lt hk⟩⟩
theorem funJ (J:Nat→List RcV) (i:Nat):(fun j=>if j = i then J i ++ jour i [] else J j) = J:=by
 funext j
 by_cases e:j = i
 ·subst e;simp [jour]
 ·simp [e]
theorem RS.idle (h:RS W w g bl g3 g10 ug v7 pv jv tv dv Z S ps js cs L J M D) {i p:Nat} (hp:ps[i]? = some p) (f17:Fs w g17 r17) (z17:Z g17 = 0) {F:Nat→Prop} (hr:RowN F w 53 14 ov []) (hF:∀ k,F k→Z k = 0∧k < w.heap.size):AfterA W w g bl g3 g10 g17 i ug v7 pv jv tv dv (.pointer (some ⟨p,0,none⟩)) ov r17 ps js L J M D []:=by
 refine ⟨Z,S,cs,ps,p,F,rfl,hp,rfl,h.n,h.e, ?_,f17,z17,hr,hF,by simp,by rw [List.append_nil];exact h.fm⟩
 rw [List.append_nil,funJ,List.map_nil,List.append_nil]
 exact h.a
theorem NetW.pointer (h:NetW Z w pv jv tv dv ps js S cs J M D) {i:Nat} (hi:i < ps.length):∃ p,ps[i]? = some p:=⟨ps[i],List.getElem?_eq_getElem hi⟩
theorem RS.acted (h:RS W w0 g bl g3 g10 ug v7 pv jv tv dv Z S ps js cs L J M D) {i p:Nat} (hp:ps[i]? = some p) (hx:Ext w0 w) (f17:Fs w0 g17 r17) (z17:Z g17 = 0) {S':Nat→Nat} {d:CoD} (hs:Stp 1 6 (S i) S' w w') (hc:Cor S' w' p d) (h6:∀ k,S' k≤6)
  (hr:RowN (fun k=>w.heap.size≤k∧S' k = 0) w' 53 14 ov (d.out.map acRow)) (hd:Clus (fun j=>inn bl j = true) NV g.st g.base g.most (fun j=>if j = i then d.flush else cs j) (L ++ d.out)) (hf:∀ a∈d.out,a.m.fm = (i:Int)) (hl:d.out.length≤10018020) :
  AfterA W w' g bl g3 g10 g17 i ug v7 pv jv tv dv (.pointer (some ⟨p,0,none⟩)) ov r17 ps js L J M D d.out:=by
 have hn:=h.n.ext hx
 have he:=h.e.ext hx
 have l17:g17 < w.heap.size:=Nat.lt_of_lt_of_le f17.lt hx.size
 have n17:¬ (1≤S i g17∧S i g17≤6):=fun e=>by have:=hn.own i g17 (by omega);omega
 refine ⟨_,_,_,ps,p,_,rfl,hp,rfl,hn.step hp hs hc.flush h6,he.upd (by simp) hs.mod (fun q hq=>by have:=hn.own i q (by omega);omega) (fun q hq=>if_neg fun e=>by omega),h.a.act hd hf,(f17.ext hx).mod hs.mod n17, ?_,hr.tight,fun k hk=>⟨?_,hk.2⟩,hl,fun a ha=>(List.mem_append.1 ha).elim (h.fm a) fun ha=>by have:=hf a ha;omega⟩
 ·exact (if_neg fun e=>by omega).trans z17
 ·have:Z k = 0:=by
   by_cases e:Z k = 0
   ·exact e
   ·have:=hn.bnd k e;have:=hk.1.1;omega
  exact (if_neg fun e=>e.2 hk.1.2).trans this
end
end Go.Proofs.YtdoeoncmhaihbaaGreat
namespace Go.Proofs.YtdoeoncmhaihbaaGreat
set_option maxRecDepth 100000
open Go.RowKit
theorem addr_add_off (g i j:Nat):(⟨g,i,none⟩:Addr).add j = ⟨g,i + j,none⟩:=by
 unfold Addr.add;split <;> simp_all
section
variable {P:Program} {ops:Array Oper} {rest:List Oper} {o:Oper} {a:Act} {Q:Exit→Act→World→Prop} {F:Nat→Prop} {w:World} {v:Value} {rows:List (List Value)} {t e:TypeId} {n:Nat}
end
end Go.Proofs.YtdoeoncmhaihbaaGreat
namespace Go.Proofs.YtdoeoncmhaihbaaGreat
set_option maxRecDepth 100000
open Go.RowKit
theorem Tryz.elMsgN:ElN Tryz.prog 35 42 13 120 (.agg mZero.toArray):=ElN.of Tryz.underlying35 (by kernel_rfl) rfl (by decide) (by decide)
theorem slS_one {w:World} {v:Value} {n:Nat} {rows:List (List Value)} (h:SlS w v n rows):v.oneCell' = true:=by
 obtain ⟨A,c,rfl,_⟩:=h;rfl
theorem jok_jour {L:List AcV} (h:∀ a∈L,a.m.Ok NV) (i:Nat):JOk (jour i L):=by
 intro r hr
 unfold jour at hr
 obtain ⟨a,ha,e⟩:=List.mem_filterMap.1 hr
 unfold recV at e
 split at e
 ·injection e with e
  subst e
  obtain ⟨h1,h2⟩:=h a ha
  rcases h2 with ⟨k,k1,k2,k3,k4⟩ | ⟨k,k1,k2⟩ | ⟨k,k1⟩
  ·have hv:=NV.in64 k1
   exact z61z
  ·have hv:In64 a.m.vl ∧ -1≤a.m.vl:=by
    rcases k1 with k1 | k1
    ·rw [k1];unfold In64;omega
    ·exact ⟨NV.in64 k1,NV.ge k1⟩
   exact ⟨⟨by unfold In64;simp only;omega,by unfold In64;simp only;omega,by unfold In64;simp only;omega,hv.1⟩,fun q=>⟨by simp only;omega,hv.2⟩⟩
  ·have hv:=NV.in64 k1.1
   exact z61z
 ·cases e
section
variable {Z Z':Nat→Nat} {W w0 w w1 w2 w3 w':World} {g:CfD} {bl:List Int} {g3 g10 g17:Nat} {ug v7 pv pv' jv jv' tv tv' dv dv' ov:Value} {ps:List Nat} {js:List Value} {S:Nat→Nat→Nat} {cs:Nat→CoD} {L:List AcV} {J:Nat→List RcV} {M:List MsV} {D:List Int} {r3 r10:List Value} {ks:List Int} {r17:List Value} {S2 S3:Nat→Nat}
theorem NetW.pushed (h:NetW Z w pv jv tv dv ps js S cs J M D) (he:Env Z W w g3 g10 r3 r10 v7 ks) (hks:ks ≠ []) {n p:Nat} (hn:ps.length = n) {S':Nat→Nat} (hx:Ext w w1) (hc:Cor S' w1 p (cs n)) (h6:∀ k,S' k≤6) (hnew:∀ k,S' k≠0→w.heap.size≤k) (hm:Mod (fun k=>Z k = 1) w1 w')
  (hr:Row (grow (fun k=>Z k = 1) w1 w') w' 32 pv' ((ps ++ [p]).map fun p=>.pointer (some ⟨p,0,none⟩))):∃ Z' S2,NetW Z' w' pv' jv tv dv (ps ++ [p]) js S2 cs J M D∧Env Z' W w' g3 g10 r3 r10 v7 ks:=by
 have h1:=h.pushP hn hx hc h6 hnew hm hr
 have e:(fun j=>if j = n then cs n else cs j) = cs:=by
  funext j
  by_cases q:j = n
  ·rw [if_pos q,q]
  ·rw [if_neg q]
 rw [e] at h1
 exact ⟨_,_,h1,he.upd hks ((hx.mod fun k=>Z k = 1).trans hm fun _ _ h=>h) (fun q hq=>by omega) (zpush hnew hx.size)⟩
theorem NetW.pushedJ (h:NetW Z w pv jv tv dv ps js S cs J M D) (he:Env Z W w g3 g10 r3 r10 v7 ks) (hks:ks ≠ []) {n:Nat} (hn:js.length = n) {v:Value} (hx:Ext w w1) (hv:RowN (fun k=>w.heap.size≤k∧k < w1.heap.size) w1 83 5 v []) (hJ:J n = []) (hm:Mod (fun k=>Z k = 2) w1 w')
  (hr:Row (grow (fun k=>Z k = 2) w1 w') w' 34 jv' (js ++ [v])):∃ Z',NetW Z' w' pv jv' tv dv ps (js ++ [v]) S cs J M D∧Env Z' W w' g3 g10 r3 r10 v7 ks :=
 ⟨_,h.pushJ hn hx hv hJ hm hr,he.upd hks ((hx.mod fun k=>Z k = 2).trans hm fun _ _ h=>h) (fun q hq=>by omega) (fun q hq=>by
  have:=hx.size
  rw [if_neg (by omega),if_neg (by omega)])⟩
theorem NetW.free (h:NetW Z w pv jv tv dv ps js S cs J M D) {k:Nat} (hk:w.heap.size≤k):Z k = 0:=by
 by_cases e:Z k = 0
 ·exact e
 ·have:=h.bnd k e;omega
theorem ne_one {d:NtE} {u:Value} {w:World} (h:Recs 2 TxR w u d.m.bk.txs):∀ x∈d.row u,x.oneCell' = true:=by
 intro x hx
 unfold NtE.row at hx
 rcases List.mem_append.1 hx with hx | hx
 ·simp only [List.mem_cons,List.not_mem_nil,or_false] at hx
  rcases hx with rfl|rfl|rfl <;> rfl
 ·exact m_one (d:=d.m) h.one' x hx
theorem wrg_inn (K:List Int) {i:Nat} (hi:i < 7):(wrg K)[i]? = some (.bool (inn K i)):=wrg_get K hi
theorem NetW.begun (h:NetW Z w pv jv tv dv ps js S cs J [] []) (he:Env Z W w g3 g10 r3 r10 v7 ks) (hks:ks ≠ []) (hx:Ext w w') {b:Nat} (h1:w.heap.size≤b) (h2:b≤w'.heap.size) (ht:RowN (fun k=>w.heap.size≤k∧k < b) w' 42 13 tv' []) (hd:Row (fun k=>b≤k∧k < w'.heap.size) w' 3 dv' []) :
  ∃ Z',NetW Z' w' pv jv tv' dv' ps js S cs J [] []∧Env Z' W w' g3 g10 r3 r10 v7 ks:=by
 have hn:=h.ext hx
 have hz:∀ {k y:Nat},Z k = y→y≠0→(if w.heap.size≤k∧k < b then 3 else if b≤k∧k < w'.heap.size then 4 else Z k) = y:=fun {k y} e e0=>by
  have:=h.bnd k (by omega)
  rw [if_neg (by omega),if_neg (by omega)];exact e
 refine ⟨fun k=>if w.heap.size≤k∧k < b then 3 else if b≤k∧k < w'.heap.size then 4 else Z k,⟨fun k hk => ?_,hn.prow.mono fun k hk=>hz hk (by omega),hn.jrow.mono fun k hk=>hz hk (by omega),hn.core,fun j k hk=>hz (hn.own j k hk) (by omega),fun j v hv=>(hn.jour j v hv).mono fun k hk=>hz hk (by omega),(SntR.of ht).mono fun k hk=>if_pos hk,hd.mono fun k hk=>(if_neg (by omega)).trans (if_pos hk)⟩,he.upd hks (hx.mod fun _=>False) (fun _=>False.elim) fun q hq=>by rw [if_neg (by omega),if_neg (by omega)]⟩
 by_cases q:w.heap.size≤k∧k < b
 ·omega
 ·by_cases q2:b≤k∧k < w'.heap.size
  ·exact q2.2
  ·exact hn.bnd k fun e=>hk ((if_neg q).trans ((if_neg q2).trans e))
theorem NetW.restored (h:NetW Z w0 pv jv tv dv ps js S cs J M D) (he:Env Z W w0 g3 g10 r3 r10 v7 ks) (hks:ks ≠ []) {i:Nat} (hx:Ext w0 w2) (hnew:∀ k,S2 k≠0→w0.heap.size≤k) (hs:Stp 1 6 S2 S3 w2 w3) (f17:Fs w0 g17 r17) (z17:Z g17 = 0) :
  ∃ Z',NetW Z' w3 pv jv tv dv ps js S cs J M D∧Env Z' W w3 g3 g10 r3 r10 v7 ks∧(∀ k,S3 k≠0→Z' k = 10 + 2 * i)∧Fs w3 g17 r17∧Z' g17 = 0∧∀ k,k < w0.heap.size→Z' k = Z k:=by
 have hG:∀ k,(1≤S2 k∧S2 k≤6)→Z k = 0:=fun k g=>by
  have h1:=hnew k (by omega)
  by_cases e:Z k = 0
  ·exact e
  ·have:=h.bnd k e;omega
 have hn2:=(h.ext hx).mod hs.mod hG
 have l17:=f17.lt
 have hlo:∀ k,S3 k≠0→w0.heap.size≤k:=fun k hk=>by
  have:=hx.size
  by_cases e:k < w2.heap.size
  ·rw [hs.same k e] at hk;exact hnew k hk
  ·omega
 have hz:=hn2.zone (F:=fun k=>S3 k≠0) (z:=10 + 2 * i) fun k hk=>⟨by
  have h1:=hlo k hk
  by_cases e:Z k = 0
  ·exact e
  ·have:=h.bnd k e;omega,hs.bnd k hk⟩
 refine ⟨_,hz, ?_,fun k hk=>if_pos hk,(f17.ext hx).mod hs.mod (fun e=>by have:=hnew g17 (by omega);omega),(if_neg fun e=>by have:=hlo g17 e;omega).trans z17,fun k hk=>if_neg fun e=>by have:=hlo k e;omega⟩
 have he2:=(he.ext hx).x
 exact ⟨hs.mod.after he2 (fun k g=>Nat.le_trans he.x.size (hnew k (by have:=g.1;omega))),fun q hq=>by
   by_cases e:S3 q≠0
   ·exact Nat.le_trans he.x.size (hlo q e)
   ·rw [if_neg e] at hq;exact he.low q hq,
  (he.f3.ext hx).mod hs.mod (fun e=>by have:=hnew g3 (by omega);have:=he.f3.lt;omega),(if_neg fun e=>by have:=hlo g3 e;have:=he.f3.lt;omega).trans he.z3,
  (he.f10.ext hx).mod hs.mod (fun e=>by have:=hnew g10 (by omega);have:=he.f10.lt;omega),(if_neg fun e=>by have:=hlo g10 e;have:=he.f10.lt;omega).trans he.z10,
  ints_mod (he.o7.ext hx) hs.mod (fun q hq e=>by have h1:=hnew q (by omega);have h2:=Sl.block_lt he.o7 (by cases ks with | nil=>exact absurd rfl hks | cons x l=>simp [i64s]) hq;omega),
  fun q hq=>(if_neg fun e=>by have h1:=hlo q e;have h2:=Sl.block_lt he.o7 (by cases ks with | nil=>exact absurd rfl hks | cons x l=>simp [i64s]) hq;omega).trans (he.z7 q hq)⟩
theorem RS.stored (h:RS W w0 g bl g3 g10 ug v7 pv jv tv dv Z S ps js cs L J M D) {i p2:Nat} (hi:i < g.st.length) (hb:¬ inn bl i = true) (hn:NetW Z' w3 pv jv tv dv ps js S cs J M D) (he:Env Z' W w3 g3 g10 (g.row ug) (wrg bl) v7 [65536,131072,196608]) (ho:∀ k,S3 k≠0→Z' k = 10 + 2 * i)
  (hc:Cor S3 w3 p2 ((CoD.new i g.st g.base g.most).restore (J i))) (h6:∀ k,S3 k≤6) (f17:Fs w3 g17 r17) (z17:Z' g17 = 0) (hm:Mod (fun k=>Z' k = 1) w3 w') (hr:Row (fun k=>Z' k = 1) w' 32 pv ((ps.map fun p=>Value.pointer (some ⟨p,0,none⟩)).set i (.pointer (some ⟨p2,0,none⟩))))
  {F:Nat→Prop} (hav:RowN F w3 53 14 ov []) (hF:∀ k,F k→Z' k = 0∧k < w3.heap.size):AfterA W w' g bl g3 g10 g17 i ug v7 pv jv tv dv (.pointer (some ⟨p2,0,none⟩)) ov r17 ps js L J M D []:=by
 have hl:=h.pl
 rw [← List.map_set (f:=fun p:Nat=>Value.pointer (some ⟨p,0,none⟩))] at hr
 have hcl:=h.a.clus.restore NV.zero hi hb
 rw [← h.a.jr i hi hb] at hcl
 refine ⟨Z',_,_,ps.set i p2,p2,F,rfl,by rw [List.getElem?_set_self (by omega)],List.length_set ..,hn.setP hm hr hc h6 ho,he.mod hm (fun q hq=>by omega), ?_,f17.mod hm (by omega),z17,hav.mod hm (fun k hk e=>by have:=(hF k hk).1;omega),fun k hk=>⟨(hF k hk).1,Nat.lt_of_lt_of_le (hF k hk).2 hm.size⟩,by simp,by rw [List.append_nil];exact h.fm⟩
 rw [List.append_nil,funJ,List.map_nil,List.append_nil]
 exact h.a.anew hcl
theorem NetW.told (h:NetW Z w pv jv tv dv ps js S cs J M D) (he:Env Z W w g3 g10 r3 r10 v7 ks) (hks:ks ≠ []) {i:Nat} {v:Value} {l:List RcV} (hx:Ext w w1) (hv:RowN (fun k=>w.heap.size≤k) w1 83 5 v (l.map rcRow)) (hm:Mod (fun k=>Z k = 2) w1 w') (hr:Row (fun k=>Z k = 2) w' 34 jv (js.set i v)) (f17:Fs w g17 r17) (z17:Z g17 = 0)
  {F:Nat→Prop} {rows:List (List Value)} (hav:RowN F w 53 14 ov rows) (hF:∀ k,F k→Z k = 0∧k < w.heap.size) :
  ∃ Z',NetW Z' w' pv jv tv dv ps (js.set i v) S cs (fun j=>if j = i then l else J j) M D∧Env Z' W w' g3 g10 r3 r10 v7 ks∧Fs w' g17 r17∧Z' g17 = 0∧RowN F w' 53 14 ov rows∧∀ k,F k→Z' k = 0∧k < w'.heap.size:=by
 have h1:=(h.ext hx).zone (F:=fun k=>w.heap.size≤k∧k < w1.heap.size) (z:=11 + 2 * i) fun k hk=>⟨by
  by_cases e:Z k = 0
  ·exact e
  ·have:=h.bnd k e;omega,hk.2⟩
 have hz2:∀ k,(if w.heap.size≤k∧k < w1.heap.size then 11 + 2 * i else Z k) = 2 ↔ Z k = 2:=fun k=>by
  by_cases e:w.heap.size≤k∧k < w1.heap.size
  ·rw [if_pos e]
   constructor
   ·intro q;omega
   ·intro q;have:=h.bnd k (by omega);omega
  ·rw [if_neg e]
 have l17:=f17.lt
 refine ⟨_,h1.setJ (hm.mono fun k _ q=>(hz2 k).2 q) (hr.mono fun k q=>(hz2 k).2 q) (hv.tight.mono fun k q=>if_pos q),he.upd hks ((hx.mod fun k=>Z k = 2).trans hm fun _ _ h=>h) (fun q hq=>by omega) (fun q hq=>if_neg (by omega)),(f17.ext hx).mod hm (by omega),(if_neg (by omega)).trans z17,(hav.ext hx).mod hm (fun k hk e=>by have:=(hF k hk).1;omega),fun k hk=>⟨(if_neg (by have:=(hF k hk).2;omega)).trans (hF k hk).1,Nat.lt_of_lt_of_le (hF k hk).2 (Nat.le_trans hx.size hm.size)⟩⟩
theorem NetW.sent (h:NetW Z w pv jv tv dv ps js S cs J M D) (he:Env Z W w g3 g10 r3 r10 v7 ks) (hks:ks ≠ []) {m:MsV} {us:List Value} {u:Value} (hus:us.length = M.length) (hus2:∀ u∈us,NoTx u) (hu:NoTx u) (hm:Mod (fun k=>Z k = 3) w w') (hr:RowN (grow (fun k=>Z k = 3) w w') w' 42 13 tv' (((M.zip us).map fun x=>mRow x.1.msg x.2) ++ [mRow m.msg u]))
  {F:Nat→Prop} {rows:List (List Value)} (hav:RowN F w 53 14 ov rows) (hF:∀ k,F k→Z k = 0∧k < w.heap.size) :
  ∃ Z',NetW Z' w' pv jv tv' dv ps js S cs J (M ++ [m]) D∧Env Z' W w' g3 g10 r3 r10 v7 ks∧RowN F w' 53 14 ov rows∧∀ k,F k→Z' k = 0∧k < w'.heap.size:=by
 have hs:SntR (grow (fun k=>Z k = 3) w w') w' tv' (M ++ [m]):=⟨us ++ [u],by simp [hus],fun x hx=>by
  rcases List.mem_append.1 hx with hx | hx
  ·exact hus2 x hx
  ·rw [List.mem_singleton] at hx;subst hx;exact hu,by
  rw [List.zip_append hus.symm,List.map_append];exact hr⟩
 exact ⟨_,h.send hm hs,he.upd hks hm (fun q hq=>by omega) (fun q hq=>if_neg (by omega)),hav.mod hm (fun k hk e=>by have:=(hF k hk).1;omega),fun k hk=>⟨(if_neg (by have:=(hF k hk).2;omega)).trans (hF k hk).1,Nat.lt_of_lt_of_le (hF k hk).2 hm.size⟩⟩
theorem NetW.decided (h:NetW Z w pv jv tv dv ps js S cs J M D) (he:Env Z W w g3 g10 r3 r10 v7 ks) (hks:ks ≠ []) {l:List Int} (hm:Mod (fun k=>Z k = 4) w w') (hr:Row (grow (fun k=>Z k = 4) w w') w' 3 dv' (i64s l)) :
  ∃ Z',NetW Z' w' pv jv tv dv' ps js S cs J M l∧Env Z' W w' g3 g10 r3 r10 v7 ks∧∀ q,q < w.heap.size→Z' q = Z q :=
 ⟨_,h.decide hm hr,he.upd hks hm (fun q hq=>by omega) (fun q hq=>if_neg (by omega)),fun q hq=>if_neg (by omega)⟩
end
end Go.Proofs.YtdoeoncmhaihbaaGreat
namespace Go.Proofs.YtdoeoncmhaihbaaGreat
set_option maxRecDepth 100000
open Go.RowKit
theorem runs_ploadN {P:Program} {o:Oper} {w:World} {t:TypeId} {n:Nat} {zs:List Value} (E:StN P t n zs) {ρ:Operand→Value} (x:Operand) {p:Addr} {cs:List Value} (ho:o.op = .load t x) (hx : ρ x = .pointer (some p)) (h:RowAt w p cs) (hl:cs.length = n):Runs P o ρ w (.agg cs.toArray):=by
 obtain ⟨fs,hu⟩:=E.u
 obtain ⟨i0,hi,_,hs⟩:=E.info
 have hc:=run_loadCells_list (P:=P) w p cs h
 rw [hl] at hc
 unfold Runs execOp
 simp [ho,hx,Instr.loadAt,Instr.sureAddr,loadVar,isAgg,run_underlying hu,sizeOf,typeInfo,hi,hs,hc]
theorem runs_remN {P:Program} {o:Oper} {w:World} {ty ty':TypeId} {ρ:Operand→Value} (x y:Operand) {a:Int} {q r:Nat} (ha:0≤a) (hq:0 < q) (hr:r = a.toNat % q) (ho:o.op = .binOp .rem ty x y ty') (hx : ρ x = .int .i64 a) (hy : ρ y = .int .i64 (q:Nat)):Runs P o ρ w (.int .i64 (r:Nat)):=by
 obtain ⟨n,rfl⟩:∃ n:Nat,a = (n:Int):=⟨a.toNat,by omega⟩
 rw [Int.toNat_natCast] at hr
 unfold Runs execOp
 simp [ho,hx,hy,eqGuard,binOp,go_sem]
 rw [if_neg (by omega),hr,Int.ofNat_tmod]
theorem w_remC {P:Program} {ops:Array Oper} {rest:List Oper} {o:Oper} {a:Act} {Q:Exit→Act→World→Prop} {w:World} {ty ty':TypeId} (x:Operand) {b:Int} {r q:Nat} (hb:0≤b) (hq:0 < q) (hr:r = b.toNat % q) (hgd:o.guard = none) (ho:o.op = .binOp .rem ty x (.const (.int .i64 (q:Nat))) ty') (hx:a.eval x = .int .i64 b)
  (k:wpList P ops Q rest (a.put o.dst (.int .i64 (r:Nat))) w):wpList P ops Q (o :: rest) a w:=wpList_runs hgd (runs_remN x _ hb hq hr ho hx rfl) k
def Sp.nint (lo:Nat) (l:List Int):Sp := .any (fun v w=>Ints w v l∧∀ k,v.ownBlock = some k→lo≤k∧k < w.heap.size) fun _ _ _ ⟨h1,h2⟩ he=>⟨Sl.ext h1 he,fun k hk=>⟨(h2 k hk).1,Nat.lt_of_lt_of_le (h2 k hk).2 he.size⟩⟩
theorem op_cloneN {ops:Array Oper} {a:Act} {w:World} {r:List Sp} {o:Oper} {lo:Nat} (x y:Tmp) (k:Nat) (more:List (Tmp × Option Nat)) {ys:List Int} (hy:ys ≠ []) (hlo:lo≤w.heap.size) (hb:ys.length * 8≤140737488355328) (hgd:o.guard = none)
  (ho:o.op = .call { callee := .builtin .append,args:=#[.tmp x, .tmp y],argTypes:=#[22,22] }) (hk:r.getD k (.val undef) = Sp.empty)
  (h:∀ (σ:Act) (w':World),Ext w w'→Given a r σ w' ((x,some k) :: more)→Ints w' (σ.tmps.getD y undef) ys):opOk Tryz.prog ops a w r o ((x,some k) :: more) (Sp.nint lo ys):=by
 intro σ w' hx hg
 rw [if_pos (wanted_none hgd _)]
 have hs:=h σ w' hx hg
 have he:(Sp.empty).p (σ.tmps.getD x undef) w':=by rw [← hk];exact hg.1
 obtain ⟨ad,he⟩:=he
 have hne:i64s ys ≠ []:=fun e=>hy (by cases ys with | nil=>rfl | cons x l=>simp [i64s] at e)
 obtain ⟨v',w'',hr,hx',hsl,hnew⟩:=run_app_empty Tryz.elI o.type ad hs (i64s_one ys) (by rw [i64s_length];exact hb)
 unfold Oper.wp execOp
 simp only [ho,resolve,invoke,builtin,Sem.run_bind,Sem.run_pure,Result.andThen_ok,List.map_toArray,List.map_cons,List.map_nil,Act.eval,he,hr]
 exact ⟨v',rfl,hx',hsl,fun q hq=>⟨Nat.le_trans hlo (Nat.le_trans hx.size (hnew hne q hq)),Sl.block_lt hsl hne hq⟩⟩
def Sp.nrec (w0:World) (rows:List (List Value)):Sp := .any (fun v w=>RowN (fun k=>w0.heap.size≤k) w 83 5 v rows) fun _ _ _ h he=>h.ext he
theorem retJ {f:FuncId} {args:Array Value} {w0 w:World} {rows:List (List Value)} (h0:Ext w0 w) (h:Calls Tryz.prog f args w fun e w' => ∃ v,e = .returned v∧Ext w w'∧RowN (fun k=>w.heap.size≤k) w' 83 5 v rows):Calls Tryz.prog f args w fun e w' => ∃ v',e = .returned v'∧Ext w w'∧Sp.p (Sp.nrec w0 rows) v' w':=by
 refine h.mono ?_
 rintro e w' ⟨v,rfl,h1,h2⟩
 exact ⟨v,rfl,h1,h2.mono fun k hk=>Nat.le_trans h0.size hk⟩
theorem rowAt_cell {w:World} {p:Addr} {u:Value} (h:w.cell? p = some u):RowAt w p [u]:=fun j x hj=>by
 match j with
 | 0 =>
  have e:u = x:=by simpa using hj
  subst e
  rw [Addr.add_zero'];exact h
 | j + 1=>simp at hj
theorem fresh_new (i:Nat) (t:List Int) (base most:Int):FreshC (CoD.new i t base most):=⟨rfl,rfl,rfl,rfl,rfl,rfl,rfl⟩
def Sp.smv (m:MsV):Sp := .any (fun v _ => ∃ u,NoTx u∧v = .agg (mRow m.msg u).toArray) fun _ _ _ h _=>h
def SmR (_:World) (row:List Value) (m:MsV):Prop := ∃ u,NoTx u∧row = mRow m.msg u
theorem SmR.stays:Stays SmR:=fun _ _ _ _ h _=>h
theorem SntR.recs {F:Nat→Prop} {w:World} {tv:Value} {M:List MsV} (h:SntR F w tv M):Recs 13 SmR w tv M:=by
 obtain ⟨us,h1,h2,h3⟩:=h
 refine h3.recs (by simp [h1]) fun k row m hk hm => ?_
 rw [List.getElem?_map] at hk
 cases hz:(M.zip us)[k]? with
 | none=>rw [hz] at hk;cases hk
 | some x =>
  rw [hz] at hk
  have e:mRow x.1.msg x.2 = row:=by simpa using hk
  obtain ⟨g1,g2⟩:=List.getElem?_zip_eq_some.1 hz
  rw [hm] at g1
  injection g1 with g1
  exact ⟨x.2,h2 _ (List.mem_of_getElem? g2),by rw [← e,g1]⟩
theorem flush_same {c:CoD} (h:c.out = []):c.flush = c:=by
 obtain ⟨_,_,_,_,_,_,_,_,_,_,_,_,_,_,_,_,_⟩:=c
 simp only at h
 subst h
 rfl
section
variable {Z:Nat→Nat} {W w:World} {g:CfD} {bl:List Int} {g3 g10:Nat} {ug v7 pv jv tv dv:Value} {ps:List Nat} {js:List Value} {S:Nat→Nat→Nat} {cs:Nat→CoD} {L:List AcV} {J:Nat→List RcV} {M:List MsV} {D:List Int}
theorem RS.hears (h:RS W w g bl g3 g10 ug v7 pv jv tv dv Z S ps js cs L J M D) {i:Nat} (hi:i < g.st.length) (hb:¬ inn bl i = true) {m:MsV} (h3:3≤m.kd→m.Ok NV∧(inn bl m.fm.toNat = true∨∃ a∈L,a.m = m)) (hf0:0≤m.fm) (kn:List Int) :
  Clus (fun j=>inn bl j = true) NV g.st g.base g.most (fun j=>if j = i then ((cs i).handle m kn).flush else cs j) (L ++ ((cs i).handle m kn).out)∧(∀ a∈((cs i).handle m kn).out,a.m.fm = (i:Int))∧((cs i).handle m kn).out.length≤10018020:=by
 obtain ⟨ho,hsp,hlk⟩:=h.core hi hb
 refine ⟨?_, ?_,handle_few hsp (fun q=>(h3 q).1) ho⟩
 ·by_cases hk:m.kd < 3
  ·rw [handle_idle hk,ho,List.append_nil,flush_same ho]
   have e:(fun j=>if j = i then cs i else cs j) = cs:=by
    funext j
    by_cases q:j = i
    ·rw [if_pos q,q]
    ·rw [if_neg q]
   rw [e]
   exact h.a.clus
  ·exact h.a.clus.handle NV.zero (fun x hx=>hx.ge) hi hb (h3 (by omega)).1 hf0 (h3 (by omega)).2 kn
 ·intro a ha
  by_cases hk:m.kd < 3
  ·rw [handle_idle hk,ho] at ha;cases ha
  ·have h1:=(spk_handle hsp (h3 (by omega)).1 NV.zero hf0 kn).2.2 a ha
   have h2:=(hlk.trans (like_handle (cs i) m kn)).1
   rw [h1.2.1,h2];rfl
theorem RS.ticks (h:RS W w g bl g3 g10 ug v7 pv jv tv dv Z S ps js cs L J M D) {i:Nat} (hi:i < g.st.length) (hb:¬ inn bl i = true) {tip:Int} (ht:NV tip) (kn:List Int) :
  Clus (fun j=>inn bl j = true) NV g.st g.base g.most (fun j=>if j = i then ((cs i).tick kn tip).flush else cs j) (L ++ ((cs i).tick kn tip).out)∧(∀ a∈((cs i).tick kn tip).out,a.m.fm = (i:Int))∧((cs i).tick kn tip).out.length≤10018020:=by
 obtain ⟨ho,hsp,hlk⟩:=h.core hi hb
 refine ⟨h.a.clus.tick NV.zero (fun x hx=>hx.ge) hi hb ht kn,fun a ha => ?_,tick_few hsp ht ho⟩
 have h1:=(spk_tick hsp NV.zero ht kn).2.2 a ha
 have h2:=(hlk.trans (like_tick (cs i) kn tip)).1
 rw [h1.2.1,h2];rfl
theorem knw_nv {x:Int} (h:x∈([65536,131072,196608]:List Int)):NV x:=by
 obtain ⟨h1,h2,h3⟩:=nv_known
 simp only [List.mem_cons,List.not_mem_nil,or_false] at h
 rcases h with rfl|rfl|rfl
 ·exact h1
 ·exact h2
 ·exact h3
theorem AfterA.ext {w':World} {g17 i:Nat} {cv av:Value} {r17:List Value} {ac:List AcV} (h:AfterA W w g bl g3 g10 g17 i ug v7 pv jv tv dv cv av r17 ps js L J M D ac) (hx:Ext w w'):AfterA W w' g bl g3 g10 g17 i ug v7 pv jv tv dv cv av r17 ps js L J M D ac:=by
 obtain ⟨Z,S,cs,ps',p,F,e1,e2,e3,e4,e5,e6,e7,e8,e9,e10,e11,e12⟩:=h
 exact ⟨Z,S,cs,ps',p,F,e1,e2,e3,e4.ext hx,e5.ext hx,e6,e7.ext hx,e8,e9.ext hx,fun k hk=>⟨(e10 k hk).1,Nat.lt_of_lt_of_le (e10 k hk).2 hx.size⟩,e11,e12⟩
theorem new_free {Z:Nat→Nat} (hn:NetW Z w pv jv tv dv ps js S cs J M D) {lo m:Nat} {kv:Value} (hlo:w.heap.size≤lo) (o:∀ k,kv.ownBlock = some k→lo≤k∧k < m) (i:Nat):∀ k,kv.ownBlock = some k→k < m∧S i k = 0:=fun k hk=>by
 obtain ⟨h1,h2⟩:=o k hk
 refine ⟨h2, ?_⟩
 by_cases e:S i k = 0
 ·exact e
 ·have h2:=hn.own i k e
  have:=hn.bnd k (by omega)
  omega
theorem own_free {Z:Nat→Nat} (hn:NetW Z w pv jv tv dv ps js S cs J M D) {w':World} {kn:List Int} {kv:Value} (hx:Ext w w') (o:OwnI w.heap.size w' kv kn) (i:Nat):∀ k,kv.ownBlock = some k→k < w'.heap.size∧S i k = 0:=fun k hk=>by
 have h1:=own_block_lt (g:=k) o hk
 refine ⟨h1.2, ?_⟩
 by_cases e:S i k = 0
 ·exact e
 ·have h2:=hn.own i k e
  have:=hn.bnd k (by omega)
  omega
end
end Go.Proofs.YtdoeoncmhaihbaaGreat
