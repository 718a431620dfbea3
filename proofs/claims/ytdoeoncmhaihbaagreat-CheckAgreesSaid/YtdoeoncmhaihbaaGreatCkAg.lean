/- The statement CheckAgrees: no two that are right decide two. No condition. -/
import Derived.Test.YtdoeoncmhaihbaaGreatPk20
import Derived.Test.YtdoeoncmhaihbaaGreatPk25
import Derived.Deep.Cut
import Derived.Deep.CutRange
import Derived.Deep.CutBlock
namespace Go.Proofs.YtdoeoncmhaihbaaGreat
set_option maxRecDepth 100000
open Go.RowKit Go.ChangeShapes Go.WideShapes Go.ChangeAt
theorem w_agzeroB {P:Program} {ops:Array Oper} {rest:List Oper} {o:Oper} {a:Act} {Q:Exit→Act→World→Prop} {w:World} {t e:TypeId} {n m:Nat} {zs:List Value} (E:AgT P t n zs) (hu:P.underlying t = some (.array m e)) (he:(P.info? e).isSome = true) (hgd:o.guard = none) (ho:o.op = .build t #[])
  (k:wpList P ops Q rest (a.put o.dst (.agg zs.toArray)) w):wpList P ops Q (o :: rest) a w:=by
 refine wpList_runs hgd ?_ k
 obtain ⟨i0,hi,hz,_⟩:=E.info
 obtain ⟨i1,hi1⟩:=Option.isSome_iff_exists.1 he
 unfold Runs execOp
 simp [ho,Instr.build,zeroValue,typeInfo,sizeOf,hi,hz,hi1,run_underlying hu,Instr.fill,Value.cells]
theorem El.ofB {P:Program} {t e:TypeId} {z:Value} {bytes:Nat} (hu:P.underlying t = some (.slice e)) (h:(P.info? e).map (fun i=>(i.zero,i.size,i.bytes)) = some (some z,1,bytes)) (h1:z.cells.size = 1) (hp:0 < bytes):El P t e z bytes:=by
 cases hi:P.info? e with
 | none=>rw [hi] at h;cases h
 | some i =>
  rw [hi] at h
  simp only [Option.map_some,Option.some.injEq,Prod.mk.injEq] at h
  exact ⟨hu,⟨i,hi,h.1,h.2.1,h.2.2⟩,h1,hp⟩
theorem Tryz.elPc:El Tryz.prog 29 32 (.pointer none) 8:=El.ofB Tryz.underlying29 (by kernel_rfl) rfl (by omega)
theorem Tryz.elRs:El Tryz.prog 30 34 (.slice none 0 0) 24:=El.ofB Tryz.underlying30 (by kernel_rfl) rfl (by omega)
theorem runs_aidxM {P:Program} {o:Oper} {ρ:Operand→Value} {w:World} {t e:TypeId} {n g off m i c:Nat} (hu:P.underlying t = some (.array n e)) (hs:(P.info? e).map (·.size) = some m) (hc:c = off + i * m) (x y:Operand) (ho:o.op = .indexAddr t x y)
  (hx : ρ x = .pointer (some ⟨g,off,none⟩)) (hy : ρ y = .int .i64 i) (hi:i < n):Runs P o ρ w (.pointer (some ⟨g,c,none⟩)):=by
 cases hq:P.info? e with
 | none=>rw [hq] at hs;cases hs
 | some i0 =>
  rw [hq] at hs
  have h3:i0.size = m:=by simpa using hs
  subst hc
  unfold Runs execOp
  simp [ho,hx,hy,Instr.indexAt,run_underlying hu,sizeOf,typeInfo,hq,h3,go_sem,hi,addr_add_off]
theorem w_aidxM {P:Program} {ops:Array Oper} {rest:List Oper} {o:Oper} {a:Act} {Q:Exit→Act→World→Prop} {w:World} {t e:TypeId} {n g off m i c:Nat} (hu:P.underlying t = some (.array n e)) (hs:(P.info? e).map (·.size) = some m) (hc:c = off + i * m) (x y:Operand) (hgd:o.guard = none) (ho:o.op = .indexAddr t x y)
  (hx:a.eval x = .pointer (some ⟨g,off,none⟩)) (hy:a.eval y = .int .i64 i) (hi:i < n) (k:wpList P ops Q rest (a.put o.dst (.pointer (some ⟨g,c,none⟩))) w):wpList P ops Q (o :: rest) a w:=wpList_runs hgd (runs_aidxM hu hs hc x y ho hx hy hi) k
def NewC (w w':World) (i:Nat) (g:CfD) (p:Nat) (S':Nat→Nat):Prop:=Ext w w'∧Cor S' w' p (CoD.new i g.st g.base g.most)∧(∀ k,S' k≤6)∧∀ k,S' k≠0→w.heap.size≤k
theorem NewC.ext {w w' w2:World} {i:Nat} {g:CfD} {p:Nat} {S':Nat→Nat} (h:NewC w w' i g p S') (hx:Ext w' w2):NewC w w2 i g p S':=⟨h.1.trans hx,h.2.1.mod (hx.mod fun _=>False) fun _ _ _=>id,h.2.2⟩
def Sp.newc (w:World) (i:Nat) (g:CfD):Sp := .any (fun v w' => ∃ p S',v = .pointer (some ⟨p,0,none⟩)∧NewC w w' i g p S') fun _ _ _ ⟨p,S',h1,h2⟩ he=>⟨p,S',h1,h2.ext he⟩
def Sp.newl (w:World) (i:Nat) (g:CfD):Sp := .any (fun v w' => ∃ p S',Sl w' v [.pointer (some ⟨p,0,none⟩)]∧NewC w w' i g p S') fun _ _ _ ⟨p,S',h1,h2⟩ he=>⟨p,S',h1.ext he,h2.ext he⟩
theorem retN {f:FuncId} {args:Array Value} {w0 w:World} {i:Nat} {g:CfD} (h0:Ext w0 w) (h:Calls Tryz.prog f args w fun e w' => ∃ p S',e = .returned (.pointer (some ⟨p,0,none⟩))∧Cor S' w' p (CoD.new i g.st g.base g.most)∧(∀ k,S' k≤6)∧(∀ k,S' k≠0→w.heap.size≤k)∧Ext w w'):Calls Tryz.prog f args w fun e w' => ∃ v',e = .returned v'∧Ext w w'∧Sp.p (Sp.newc w0 i g) v' w':=by
 refine h.mono ?_
 rintro e w' ⟨p,S',rfl,h1,h2,h3,h4⟩
 exact ⟨_,rfl,h4,p,S',rfl,h0.trans h4,h1,h2,fun k hk=>Nat.le_trans h0.size (h3 k hk)⟩
theorem op_newl {ops:Array Oper} {a:Act} {w w0:World} {r:List Sp} {o:Oper} {reads:List (Tmp × Option Nat)} {i:Nat} {g:CfD} (t:Nat) (hgd:o.guard = none) (ho:o.op = .buildSlice 29 1 #[(0, .tmp t)]) (h:∀ (σ:Act) (w':World),Ext w w'→Given a r σ w' reads→∃ p S',σ.tmps.getD t undef = .pointer (some ⟨p,0,none⟩)∧NewC w0 w' i g p S'):opOk Tryz.prog ops a w r o reads (Sp.newl w0 i g):=by
 intro σ w' hx hg
 rw [if_pos (wanted_none hgd _)]
 obtain ⟨p,S',hp,hn⟩:=h σ w' hx hg
 have hr:=run_buildSlice (P:=Tryz.prog) Tryz.elPc [.pointer (some ⟨p,0,none⟩)] (#[((0:Nat),Operand.tmp t)].map fun x=>(x.1,σ.eval x.2)) (by rw [Array.getD_eq_getD_getElem?] at hp;simp [Act.eval,hp]) (by intro u hu;rw [List.mem_singleton] at hu;subst hu;rfl) 1 rfl (by omega) w'
 unfold Oper.wp execOp
 simp only [ho]
 rw [show (Instr.buildSlice 29 1 (#[((0:Nat),Operand.tmp t)].map fun (i,x)=>(i,σ.eval x))) = Instr.buildSlice 29 1 (#[((0:Nat),Operand.tmp t)].map fun x=>(x.1,σ.eval x.2)) from rfl]
 simp only [Sem.run_bind,hr,Result.andThen_ok]
 exact ⟨_,rfl,(Ext.refl _).alloc _,p,S',Sl.of_own (own_new (w:=w') (e:=32) [Value.pointer (some ⟨p,0,none⟩)] (by simp)),hn.ext ((Ext.refl _).alloc _)⟩
theorem Tryz.ag7b:AgT Tryz.prog 31 7 (wrg []):=AgT.of (by kernel_rfl) (by rw [wrg_nil];kernel_rfl) rfl
set_option maxHeartbeats 25600000 in
theorem checkAgrees_law (v1 v2 ug:Value) (g:CfD) (bl:List Int) (l:List NtE) (W:World) (hu0:Ints W ug g.st) (hgl:g.st.length * 8≤140737488351232) (h0:Ints W v1 bl) (hki:I64s bl) (hk8:bl.length * 8≤140737488351232) (h1:Recs 16 NtER W v2 l) :
  Calls Tryz.prog 3 #[.agg (g.row ug).toArray,v1,v2] W fun e w'=>e = .returned (.bool true)∧Ext W w':=by
 refine z2rz ?_
 have hu:=hide_ hu0
 have r1:=hide_ h1
 have hbig:=hide_ (show (([]:List Int).length + g.st.length) * 8≤140737488355328 from by simp;omega)
 have hX:=Ext.refl W
 have kv1:=hide_ h0
 have hb8:=hide_ hk8
 obtain ⟨ln,hln0⟩:∃ n:Int,((l.length:Nat):Int) = n:=⟨_,rfl⟩
 have hln:=hide_ hln0
 by_cases hg0:g.Ok
 rotate_left
 ·have hok:=hide_ (decide_eq_false hg0)
  clear hu0 h1 h0 hki hk8 hg0 hln0 hgl
  go_enter Tryz.func3,Tryz.ntmps3
  go_wp2_with ((first | go_big_skip | (refine z52z ?_;intro g3 w1 hg3 hx f3;replace hX:=hX.trans hx;clear hx) | (go_at_call 4;refine alive_any.mono ?_;rintro e w3 ⟨rfl,hx⟩;replace f3:=f3.ext hx;replace hX:=hX.trans hx;clear hx) | refine z58z ?_ | (go_at_call 5;refine (right_any (hu.out.ext hX)).mono ?_;rintro e w4 ⟨rfl,hx⟩;rw [hok.out];replace f3:=f3.ext hx;replace hX:=hX.trans hx;clear hx) | (refine z3mz ?_;rw [hln.out]) | refine z2pz ?_ | fail) <;> (try refine z0z ?_))
  go_ret
  exact z4pz
 have hok:=hide_ (decide_eq_true hg0)
 have hg:=hide_ hg0
 by_cases h60:(200:Int) < ln
 ·have tA:decide (ln > 200) = true:=decide_eq_true h60
  have tA':decide ((200:Int) < ln) = true:=decide_eq_true h60
  clear hu0 h1 h0 hki hk8 hg0 hln0 hgl
  go_enter Tryz.func3,Tryz.ntmps3
  go_wp2_with ((first | go_big_skip | (refine z52z ?_;intro g3 w1 hg3 hx f3;replace hX:=hX.trans hx;clear hx) | (go_at_call 4;refine alive_any.mono ?_;rintro e w3 ⟨rfl,hx⟩;replace f3:=f3.ext hx;replace hX:=hX.trans hx;clear hx) | refine z58z ?_ | (go_at_call 5;refine (right_any (hu.out.ext hX)).mono ?_;rintro e w4 ⟨rfl,hx⟩;rw [hok.out];replace f3:=f3.ext hx;replace hX:=hX.trans hx;clear hx) | (refine z3mz ?_;rw [hln.out]) | refine z2pz ?_ | fail) <;> (try refine z0z ?_))
  go_ret
  exact z4pz
 have tA:decide (ln > 200) = false:=decide_eq_false h60
 have tA':decide ((200:Int) < ln) = false:=decide_eq_false h60
 have hask:=hide_ (show Asked W ug v1 g.st bl from ⟨hg0.st,hu0,h0,hki,hk8⟩)
 cases hf0:few g.st bl
 ·have hfw:=hide_ hf0
  clear hu0 h1 h0 hki hk8 hg0 hln0 hgl hf0
  go_enter Tryz.func3,Tryz.ntmps3
  go_wp2_with ((first | go_big_skip | (refine z52z ?_;intro g3 w1 hg3 hx f3;replace hX:=hX.trans hx;clear hx) | (go_at_call 4;refine alive_any.mono ?_;rintro e w3 ⟨rfl,hx⟩;replace f3:=f3.ext hx;replace hX:=hX.trans hx;clear hx) | refine z58z ?_ | (go_at_call 5;refine (right_any (hu.out.ext hX)).mono ?_;rintro e w4 ⟨rfl,hx⟩;rw [hok.out];replace f3:=f3.ext hx;replace hX:=hX.trans hx;clear hx) | (refine z3mz ?_;rw [hln.out]) | refine z2pz ?_ | (go_at_call 6;refine (RefFew_of (hask.out.ext hX)).mono ?_;rintro e wf ⟨rfl,hwf⟩;replace hwf:=hwf.symm;subst hwf;rw [hfw.out]) | fail) <;> (try refine z0z ?_))
  go_ret
  exact z4pz
 have hfw:=hide_ hf0
 have hfb:=hide_ (FewB.of hg0.st hf0)
 have hl200:=hide_ (show l.length≤200 by omega)
 clear hu0 h1 h0 hki hk8 hln0 hgl hf0 h60 hg0
 go_enter Tryz.func3,Tryz.ntmps3
 go_wp2_with ((first | go_big_skip | (refine z52z ?_;intro g3 w1 hg3 hx f3;replace hX:=hX.trans hx;clear hx) | (go_at_call 4;refine alive_any.mono ?_;rintro e w3 ⟨rfl,hx⟩;replace f3:=f3.ext hx;replace hX:=hX.trans hx;clear hx) | refine z58z ?_ | (go_at_call 5;refine (right_any (hu.out.ext hX)).mono ?_;rintro e w4 ⟨rfl,hx⟩;rw [hok.out];replace f3:=f3.ext hx;replace hX:=hX.trans hx;clear hx) | (refine z3mz ?_;rw [hln.out]) | refine z2pz ?_ | (go_at_call 6;refine (RefFew_of (hask.out.ext hX)).mono ?_;rintro e wf ⟨rfl,hwf⟩;replace hwf:=hwf.symm;subst hwf;rw [hfw.out]) | ((with_reducible refine at_lit ?_);refine w_new Tryz.elI (o:=⟨some 42,_,_,_,_,_⟩) (i64s [65536,131072,196608]) rfl rfl rfl (i64s_cells _) rfl (by omega) ?_;intro v7 wn hx on;have o7:Ints wn v7 [65536,131072,196608]:=OwnI.ints on;have l7:=hide_ (show ∀ q,v7.ownBlock = some q→q < wn.heap.size from fun q hq=>(own_block_lt on hq).2);replace f3:=f3.ext hx;have l3:=hide_ f3.lt;replace hX:=hX.trans hx;clear hx;have hXn:=hide_ hX) | ((with_reducible refine at_lit ?_);refine w_new Tryz.elPc (o:=⟨some 43,_,_,_,_,_⟩) [] rfl rfl rfl (by simp) rfl (by omega) ?_;intro pv wn2 hx op;replace f3:=f3.ext hx;replace o7:=o7.ext hx;have hx2:=hide_ hx;replace hX:=hX.trans hx;clear hx) | ((with_reducible refine at_lit ?_);refine w_new Tryz.elRs (o:=⟨some 44,_,_,_,_,_⟩) [] rfl rfl rfl (by simp) rfl (by omega) ?_;intro jv wn3 hx oj;replace f3:=f3.ext hx;replace o7:=o7.ext hx;have hop:=hide_ op;have hoj:=hide_ oj;have hx3:=hide_ hx;clear op oj;replace hX:=hX.trans hx;clear hx) | refine w_agzeroB Tryz.ag7b Tryz.underlying31 (by kernel_rfl) rfl rfl ?_ | ((with_reducible refine at_alloc ?_);refine w_agalloc Tryz.ag7b rfl rfl ?_;intro g10 wa hga hxa fa;replace hga:=hide_ hga;replace hxa:=hide_ hxa;have hX3:=hide_ hX) | ((with_reducible refine at_store ?_);refine w_agput Tryz.ag7b _ _ (us:=wrg []) rfl rfl rfl rfl rfl fa (wrg_len _) (wrg_len _) (wrg_one _) ?_;intro wb hmb f10;have hx:=hmb.after hxa.out (fun j e=>e ▸ hga.out);have hx4:=hide_ hx;replace f3:=f3.ext hx;replace o7:=o7.ext hx;replace hX:=hX.trans hx;clear hx;clear hmb fa hxa) | ((with_reducible refine at_bi ?_);refine i_len _ rfl rfl rfl (kv1.out.ext hX) ?_) | fail) <;> (try refine z0z ?_))
 have hg10:=hide_ (show W.heap.size≤g10 from Nat.le_trans hX3.out.size hga.out)
 go_loopw [48] (fun i wr => ∃ k:Nat,i = .int .i64 k∧k≤bl.length∧Mod (fun q=>q = g10) wb wr∧Fs wr g10 (wrg (bl.take k))) (fun i _=>bl.length - (RowKit.intOf i).toNat)
 case atStart=>exact ⟨0,rfl,Nat.zero_le _,Mod.refl _ _,f10⟩
 case round =>
  clear f10
  obtain ⟨k,rfl,hk,hm,f10⟩:=hrel
  have hXr:=hm.after hX (fun j e=>e ▸ hg10.out)
  by_cases hge:bl.length≤k
  ·obtain rfl:k = bl.length:=by omega
   have t2:decide (bl.length < bl.length) = false:=by simp
   rw [List.take_length] at f10
   clear hge hk
   obtain ⟨Z,hZ⟩:∃ Z:Nat→Nat,Z = fun q=>if wn.heap.size≤q∧q < wn2.heap.size then 1 else if wn2.heap.size≤q∧q < wn3.heap.size then 2 else 0:=⟨_,rfl⟩
   have h23:=hx3.out.size
   have h10:=hga.out
   have hZ1:∀ q,wn.heap.size≤q→q < wn2.heap.size→Z q = 1:=fun q h1 h2=>by rw [hZ];exact if_pos ⟨h1,h2⟩
   have hZ2:∀ q,wn2.heap.size≤q→q < wn3.heap.size→Z q = 2:=fun q h1 h2=>by rw [hZ];exact (if_neg (by omega)).trans (if_pos ⟨h1,h2⟩)
   have hZ0:∀ q,q < wn.heap.size∨wn3.heap.size≤q→Z q = 0:=fun q h=>by rw [hZ];have:=hx2.out.size;exact (if_neg (by omega)).trans (if_neg (by omega))
   have hZn:∀ q,Z q≠0→wn.heap.size≤q∧q < wn3.heap.size:=fun q h=>by
    have h1:¬ (q < wn.heap.size∨wn3.heap.size≤q):=fun e=>h (hZ0 q e)
    omega
   have hN:NetW Z wr pv jv (.slice none 0 0) (.slice none 0 0) [] [] (fun _ _=>0) (fun i=>CoD.new i g.st g.base g.most) (fun _ => []) [] []:=by
    refine NetW.start ((((Row.of hop.out hZ1).ext hx3.out).ext hx4.out).mod hm fun q h1 h2 => ?_) (((Row.of hoj.out hZ2).ext hx4.out).mod hm fun q h1 h2 => ?_) fun q h => ?_
    ·have h2':q = g10:=h2
     have:=(hZn q (by omega)).2;omega
    ·have h2':q = g10:=h2
     have:=(hZn q (by omega)).2;omega
    ·have:=(hZn q h).2;have:=hx4.out.size;have:=hm.size;omega
   have hE:Env Z W wr g3 g10 (g.row ug) (wrg bl) v7 [65536,131072,196608]:=by
    have h3:=l3.out
    have hxn:=hx2.out.size
    refine ⟨hXr,fun q h=>Nat.le_trans hXn.out.size (hZn q h).1,f3.mod hm (fun e=>by have e':g3 = g10:=e;omega),hZ0 _ (.inl h3),f10,hZ0 _ (.inr h10),ints_mod o7 hm fun q hq e => ?_,fun q hq=>hZ0 _ (.inl (l7.out q hq))⟩
    have e':q = g10:=e
    have:=l7.out q hq
    omega
   clear hZ hZ1 hZ2 hZ0 hZn h23 h10 f3 o7 f10 hm hX hXr l7 hop l3 hoj hga hX3 hg10 hx3 hx4 hx2 hXn hg3
   have hgl6:=hide_ (show g.st.length≤7 from hg.out.st.2.1)
   go_wp2_with ((first | ((with_reducible refine at_field ?_);refine w_fieldB (t:=24) (i:=3) (off:=3) (c:=3) (by kernel_rfl) rfl _ _ rfl rfl rfl ?_) | ((with_reducible refine at_load ?_);refine w_fload _ rfl rfl rfl hE.f3 rfl (agg_of (by kernel_rfl)) ?_) | ((with_reducible refine at_bi ?_);refine i_len _ rfl rfl rfl (hu.out.ext hE.x) ?_) | fail) <;> (try refine z0z ?_))
   go_loopw [8,9,64] (fun u8 u9 i w2 => ∃ (k:Nat) (Z:Nat→Nat) (ps:List Nat) (js:List Value) (S:Nat→Nat→Nat),i = .int .i64 k∧k≤g.st.length∧ps.length = k∧js.length = k∧NetW Z w2 u8 u9 (.slice none 0 0) (.slice none 0 0) ps js S (fun i=>CoD.new i g.st g.base g.most) (fun _ => []) [] []∧Env Z W w2 g3 g10 (g.row ug) (wrg bl) v7 [65536,131072,196608]) (fun _ _ i _=>g.st.length - (RowKit.intOf i).toNat)
   case atStart=>exact ⟨0,Z, [], [],_,rfl,Nat.zero_le _,rfl,rfl,hN,hE⟩
   case round =>
    clear hN hE
    obtain ⟨k,Z,ps,js,S,rfl,hk,hpl0,hjl0,hN0,hE0⟩:=hrel
    by_cases hge:g.st.length≤k
    ·obtain rfl:k = g.st.length:=by omega
     have t5:decide (g.st.length < g.st.length) = false:=by simp
     clear hge hk
     obtain ⟨pv,hpv⟩:∃ va,va = u8:=⟨_,rfl⟩
     obtain ⟨jv,hjv⟩:∃ va,va = u9:=⟨_,rfl⟩
     rw [← hpv, ← hjv] at hN0
     subst hpv
     subst hjv
     go_wp2_with ((first | ((with_reducible refine at_lit ?_);refine w_nnew Tryz.elMsgN [] rfl rfl rfl (by simp) rfl (by omega) ?_;intro tv w6 B hB1 hB2 hx6 hn6;have hs6:=hide_ hn6) | (refine z3lz ?_;intro dv w7 hx7 o7;obtain ⟨Z4,hN4,hE4⟩:=hN0.begun hE0 (by simp) (hx6.trans hx7) (b:=w6.heap.size) hx6.size hx7.size ((hn6.tight.mono fun q hq=>⟨Nat.le_trans hB1 hq.1.1,hq.2⟩).ext hx7) (Row.of o7 fun q h1 h2=>⟨h1,h2⟩);clear hN0 hE0 hn6 hB1 hB2 hx6 hx7 o7 hs6) | ((with_reducible refine at_bi ?_);refine w_rlen Tryz.elNtE _ rfl rfl rfl (r1.out.ext NtER.stays hE4.x) ?_) | fail) <;> (try refine z0z ?_))
     go_loopw [14,15,89] (fun u14 u15 i w2 => ∃ (k:Nat) (Z:Nat→Nat) (S:Nat→Nat→Nat) (ps:List Nat) (js:List Value) (cs:Nat→CoD) (L:List AcV) (J:Nat→List RcV) (M:List MsV) (D:List Int),i = .int .i64 k∧k≤l.length∧RS W w2 g bl g3 g10 ug v7 pv jv u14 u15 Z S ps js cs L J M D∧L.length≤k * 10018020∧D.length≤1001) (fun _ _ i _=>l.length - (RowKit.intOf i).toNat)
     case atStart=>exact ⟨0,Z4,S,ps,js,_, [],_, [], [],rfl,Nat.zero_le _,⟨hN4,hE4,AgInv.start hg.out.st NV.zero,hpl0,hjl0,fun i=>Nat.le_refl _,(by intro a ha;cases ha)⟩,by simp,by simp⟩
     case round =>
      clear hN4 hE4 hpl0 hjl0
      obtain ⟨k,Z,S,ps,js,cs,L,J,M,D,rfl,hk,hR,hLk0,hD10⟩:=hrel
      by_cases hge:l.length≤k
      ·obtain rfl:k = l.length:=by omega
       have t6:decide (l.length < l.length) = false:=by simp
       have hX:=hR.e.x
       clear hge hk hR hLk0 hD10
       go_wp2
       go_ret
       exact z4pz
      have hlt:k < l.length:=by omega
      have t6:decide (k < l.length) = true:=decide_eq_true hlt
      obtain ⟨tv,htv⟩:∃ va,va = u14:=⟨_,rfl⟩
      obtain ⟨dv,hdv⟩:∃ va,va = u15:=⟨_,rfl⟩
      rw [← htv, ← hdv] at hR
      subst htv
      subst hdv
      obtain ⟨x,hd0⟩:∃ x,l[k]? = some x:=⟨_,List.getElem?_eq_getElem hlt⟩
      have hd:=hide_ hd0
      have hlt':=hide_ hlt
      have hkb:k≤200:=by have:=hl200.out;omega
      have hLk:=hide_ (show L.length≤(k + 1) * 10018020 from Nat.le_trans hLk0 (Nat.mul_le_mul_right _ (Nat.le_succ k)))
      have hL9:=hide_ (show L.length≤2003604000 from Nat.le_trans hLk0 (Nat.le_trans (Nat.mul_le_mul_right _ hkb) (by decide)))
      have hLk9:=hide_ hLk0
      have hD1:=hide_ hD10
      have hpl:=hide_ hR.pl
      clear hge hlt hk hd0 hLk0 hD10
      by_cases c1:x.to < 0
      ·have t7:decide (x.to < 0) = true:=decide_eq_true c1
       clear c1
       go_wp2_with ((first | go_big_skip | (refine z5lz ?_;intro pa ua hrow hua hraw;replace hrow:=hide_ hrow;replace hua:=hide_ hua;have hav:=hide_ hraw.vl;have hap:=hide_ hraw.bk.parent;have haf:=hide_ hraw.few;clear hraw) | refine z6hz ?_ | ((with_reducible refine at_alloc ?_);refine w_allocN Tryz.stNtE rfl rfl ?_;intro g17 wa hga hxa fa;have z17:=hide_ (hR.n.free hga)) | (refine z4qz ?_;intro wb hmb f17;have hx:=hmb.after hxa (fun j e=>e ▸ hga);replace hR:=hR.ext hx;clear hx hxa hmb fa hga hrow) | refine z6z ?_ | (refine z4vz ?_;rw [List.length_map,hpl.out]) | fail) <;> (try refine z0z ?_))
       go_roundw
       case rel=>exact z5tz
       case measure=>have:=hlt'.out;simp [RowKit.intOf];omega
      have t7:decide (x.to < 0) = false:=decide_eq_false c1
      by_cases c2:(g.st.length:Int)≤x.to
      ·have t8:decide ((g.st.length:Int)≤x.to) = true:=decide_eq_true c2
       have t8':decide (x.to ≥ (g.st.length:Int)) = true:=decide_eq_true c2
       clear c1 c2
       go_wp2_with ((first | go_big_skip | (refine z5lz ?_;intro pa ua hrow hua hraw;replace hrow:=hide_ hrow;replace hua:=hide_ hua;have hav:=hide_ hraw.vl;have hap:=hide_ hraw.bk.parent;have haf:=hide_ hraw.few;clear hraw) | refine z6hz ?_ | ((with_reducible refine at_alloc ?_);refine w_allocN Tryz.stNtE rfl rfl ?_;intro g17 wa hga hxa fa;have z17:=hide_ (hR.n.free hga)) | (refine z4qz ?_;intro wb hmb f17;have hx:=hmb.after hxa (fun j e=>e ▸ hga);replace hR:=hR.ext hx;clear hx hxa hmb fa hga hrow) | refine z6z ?_ | (refine z4vz ?_;rw [List.length_map,hpl.out]) | fail) <;> (try refine z0z ?_))
       go_roundw
       case rel=>exact z5tz
       case measure=>have:=hlt'.out;simp [RowKit.intOf];omega
      have t8:decide ((g.st.length:Int)≤x.to) = false:=decide_eq_false c2
      have t8':decide (x.to ≥ (g.st.length:Int)) = false:=decide_eq_false c2
      obtain ⟨i,hto0⟩:∃ i:Nat,x.to = (i:Int):=⟨x.to.toNat,by omega⟩
      have hto:=hide_ hto0
      have hil:=hide_ (show i < g.st.length from by omega)
      have hi7:=hide_ (show i < 7 from by have:=hgl6.out;omega)
      obtain ⟨q,hq0⟩:∃ q,inn bl i = q:=⟨_,rfl⟩
      have hwg:=hide_ (show (wrg bl)[i]? = some (.bool q) from by rw [wrg_inn bl hi7.out,hq0])
      cases q
      rotate_left
      ·clear c1 c2 hto0 hq0
       go_wp2_with ((first | go_big_skip | (refine z5lz ?_;intro pa ua hrow hua hraw;replace hrow:=hide_ hrow;replace hua:=hide_ hua;have hav:=hide_ hraw.vl;have hap:=hide_ hraw.bk.parent;have haf:=hide_ hraw.few;clear hraw) | refine z6hz ?_ | ((with_reducible refine at_alloc ?_);refine w_allocN Tryz.stNtE rfl rfl ?_;intro g17 wa hga hxa fa;have z17:=hide_ (hR.n.free hga)) | (refine z4qz ?_;intro wb hmb f17;have hx:=hmb.after hxa (fun j e=>e ▸ hga);replace hR:=hR.ext hx;clear hx hxa hmb fa hga hrow) | refine z6z ?_ | (refine z4vz ?_;rw [List.length_map,hpl.out]) | ((with_reducible refine at_idx ?_);(try refine w_yes _ _ _ rfl rfl rfl ?_);refine w_aidxM (off:=0) (m:=1) (i:=i) (c:=i) Tryz.underlying31 (by kernel_rfl) (by omega) _ _ rfl rfl rfl (by rw [hto.out];rfl) hi7.out ?_) | ((with_reducible refine at_load ?_);(try refine w_yes _ _ _ rfl rfl rfl ?_);refine w_fload _ rfl rfl rfl hR.e.f10 hwg.out (agg_of (by kernel_rfl)) ?_) | fail) <;> (try refine z0z ?_))
       go_roundw
       case rel=>exact z5tz
       case measure=>have:=hlt'.out;simp [RowKit.intOf];omega
      have hgood:=hide_ (show ¬ inn bl i = true from by rw [hq0];decide)
      obtain ⟨p,hp0⟩:∃ p,ps[i]? = some p:=⟨_,List.getElem?_eq_getElem (show i < ps.length from by rw [hpl.out];exact hil.out)⟩
      have hp:=hide_ hp0
      have hilp:=hide_ (show i < (ps.map fun p=>Value.pointer (some ⟨p,0,none⟩)).length from by rw [List.length_map,hpl.out];exact hil.out)
      have hpp:=hide_ (show (ps.map fun p=>Value.pointer (some ⟨p,0,none⟩))[i]'(hilp.out) = .pointer (some ⟨p,0,none⟩) from by rw [List.getElem_map];rw [List.getElem?_eq_getElem (show i < ps.length from by rw [hpl.out];exact hil.out)] at hp0;injection hp0 with hp0;rw [hp0])
      clear c1 c2 hto0 hq0 hp0
      go_upto_block 6 with (first
       | go_big_skip
       | ((with_reducible refine at_idx ?_);refine w_NtEidx Tryz.elNtE _ _ k rfl rfl rfl rfl r1.out hR.e.x hd.out ?_;intro pa ua hrow hua hraw;replace hrow:=hide_ hrow;replace hua:=hide_ hua;have hav:=hide_ hraw.vl;have hap:=hide_ hraw.bk.parent;have haf:=hide_ hraw.few;clear hraw;(try simp only [Act.put,List.setIfInBounds_toArray,List.set_cons_zero,List.set_cons_succ]))
       | ((with_reducible refine at_load ?_);refine w_ploadN Tryz.stNtE _ rfl rfl rfl hrow.out rfl ?_;(try simp only [Act.put,List.setIfInBounds_toArray,List.set_cons_zero,List.set_cons_succ]))
       | ((with_reducible refine at_alloc ?_);refine w_allocN Tryz.stNtE rfl rfl ?_;intro g17 wa hga hxa fa;have z17:=hide_ (hR.n.free hga);(try simp only [Act.put,List.setIfInBounds_toArray,List.set_cons_zero,List.set_cons_succ]))
       | ((with_reducible refine at_store ?_);refine w_astoreN Tryz.stNtE (us:=x.row ua) _ _ rfl rfl rfl rfl rfl fa rfl rfl (ne_one hua.out) ?_;intro wb hmb f17;have hx:=hmb.after hxa (fun j e=>e ▸ hga);replace hR:=hR.ext hx;clear hx hxa hmb fa hga hrow;(try simp only [Act.put,List.setIfInBounds_toArray,List.set_cons_zero,List.set_cons_succ]))
       | ((with_reducible refine at_field ?_);(try refine w_yes _ _ _ rfl rfl rfl ?_);refine w_fieldB (t:=44) (i:=0) (off:=0) (by kernel_rfl) rfl _ _ rfl rfl rfl ?_;(try simp only [Act.put,List.setIfInBounds_toArray,List.set_cons_zero,List.set_cons_succ]))
       | ((with_reducible refine at_field ?_);(try refine w_yes _ _ _ rfl rfl rfl ?_);refine w_fieldB (t:=44) (i:=1) (off:=1) (by kernel_rfl) rfl _ _ rfl rfl rfl ?_;(try simp only [Act.put,List.setIfInBounds_toArray,List.set_cons_zero,List.set_cons_succ]))
       | ((with_reducible refine at_field ?_);(try refine w_yes _ _ _ rfl rfl rfl ?_);refine w_fieldB (t:=44) (i:=2) (off:=2) (by kernel_rfl) rfl _ _ rfl rfl rfl ?_;(try simp only [Act.put,List.setIfInBounds_toArray,List.set_cons_zero,List.set_cons_succ]))
       | ((with_reducible refine at_load ?_);(try refine w_yes _ _ _ rfl rfl rfl ?_);refine w_fload _ rfl rfl rfl f17 rfl (agg_of (by kernel_rfl)) ?_;(try simp only [Act.put,List.setIfInBounds_toArray,List.set_cons_zero,List.set_cons_succ]))
       | ((with_reducible refine at_bi ?_);(try refine w_yes _ _ _ rfl rfl rfl ?_);refine w_len Tryz.elPc _ rfl rfl rfl hR.n.prow.sl ?_;rw [List.length_map,hpl.out];(try simp only [Act.put,List.setIfInBounds_toArray,List.set_cons_zero,List.set_cons_succ]))
       | ((with_reducible refine at_idx ?_);(try refine w_yes _ _ _ rfl rfl rfl ?_);refine w_aidxM (off:=0) (m:=1) (i:=i) (c:=i) Tryz.underlying31 (by kernel_rfl) (by omega) _ _ rfl rfl rfl (by rw [hto.out];rfl) hi7.out ?_;(try simp only [Act.put,List.setIfInBounds_toArray,List.set_cons_zero,List.set_cons_succ]))
       | ((with_reducible refine at_load ?_);(try refine w_yes _ _ _ rfl rfl rfl ?_);refine w_fload _ rfl rfl rfl hR.e.f10 hwg.out (agg_of (by kernel_rfl)) ?_;(try simp only [Act.put,List.setIfInBounds_toArray,List.set_cons_zero,List.set_cons_succ]))
       | ((with_reducible refine at_idx ?_);refine w_idx Tryz.elPc _ _ i rfl rfl rfl hR.n.prow.sl (by rw [hto.out];rfl) hilp.out ?_;intro ad had;rw [hpp.out] at had;(try simp only [Act.put,List.setIfInBounds_toArray,List.set_cons_zero,List.set_cons_succ]))
       | ((with_reducible refine at_lit ?_);refine w_nnew Tryz.elActN [] rfl rfl rfl (by simp) rfl (by omega) ?_;intro av w6 B hB1 hB2 hx hn6;have hav0:=hide_ hn6.tight;have hFz:=hide_ (show ∀ q,((B≤q∧q < w6.heap.size)∧q < w6.heap.size)→Z q = 0∧q < w6.heap.size from fun q hq=>⟨hR.n.free (Nat.le_trans hB1 hq.1.1),hq.2⟩);replace f17:=f17.ext hx;replace hR:=hR.ext hx;clear hx hn6 hB1 hB2;(try simp only [Act.put,List.setIfInBounds_toArray,List.set_cons_zero,List.set_cons_succ]))
       | fail)
      go_cut [18,19,20] from 90 to 259 (fun u18 u19 u20 w' => ∃ ac,AfterA W w' g bl g3 g10 g17 i ug v7 pv jv tv dv u18 u19 (x.row ua) ps js L J M D ac)
      case first =>
       by_cases k0:x.k = 0
       ·have e0:(x.k == 0) = true:=by simpa using k0
        clear k0
        as_aux_lemma =>
         by_cases n0:0≤x.n
         rotate_left
         ·have tn:decide (0≤x.n) = false:=decide_eq_false n0
          have tn':decide (x.n ≥ 0) = false:=decide_eq_false n0
          clear n0
          go_wp2_with ((first | go_big_skip | refine z6z ?_ | fail) <;> (try refine z0z ?_))
          go_meet
          case rel=>exact ⟨_,hR.idle hp.out f17 z17.out hav0.out hFz.out⟩
         have tn:decide (0≤x.n) = true:=decide_eq_true n0
         have tn':decide (x.n ≥ 0) = true:=decide_eq_true n0
         by_cases m0:M.length = 0
         ·have tm:decide ((0:Int) < (M.length:Int)) = false:=decide_eq_false (by omega)
          have tm':decide ((M.length:Int) > 0) = false:=decide_eq_false (by omega)
          have tm2:decide (0 < M.length) = false:=decide_eq_false (by omega)
          have tm3:decide (M.length > 0) = false:=decide_eq_false (by omega)
          clear n0 m0
          go_wp2_with ((first | refine z6jz ?_ | fail) <;> (try refine z0z ?_))
          go_meet
          case rel=>exact ⟨_,hR.idle hp.out f17 z17.out hav0.out hFz.out⟩
         have tm:decide ((0:Int) < (M.length:Int)) = true:=decide_eq_true (by omega)
         have tm':decide ((M.length:Int) > 0) = true:=decide_eq_true (by omega)
         have tm2:decide (0 < M.length) = true:=decide_eq_true (by omega)
         have tm3:decide (M.length > 0) = true:=decide_eq_true (by omega)
         obtain ⟨j,hj0⟩:∃ j,j = x.n.toNat % M.length:=⟨_,rfl⟩
         have hj:=hide_ hj0
         have hjl:j < M.length:=by rw [hj0];exact Nat.mod_lt _ (by omega)
         obtain ⟨m,hm0⟩:∃ m,M[j]? = some m:=⟨_,List.getElem?_eq_getElem hjl⟩
         have hmj:=hide_ hm0
         have hn0:=hide_ n0
         have hM0:=hide_ (show 0 < M.length by omega)
         have hjlt:=hide_ hjl
         have hms:=hide_ (hR.a.sent hm0)
         have hf0:=hide_ (show 0≤m.fm from by obtain ⟨_,a,ha,e⟩:=hms.out;rw [← e];exact hR.fm a ha)
         have hk6:=hide_ (show m.kd≤6 from by obtain ⟨⟨_,h⟩,_⟩:=hms.out;rcases h with ⟨h,_⟩ | ⟨h,_⟩ | ⟨h,_⟩ <;> omega)
         have hcl:=hide_ (hR.hears hil.out hgood.out (m:=m) (fun _=>⟨hms.out.1, .inr hms.out.2⟩) hf0.out [65536,131072,196608])
         clear n0 m0 hj0 hjl hm0
         go_wp2_with ((first | refine z6jz ?_ | fail) <;> (try refine z0z ?_))
         obtain ⟨⟨sv,dvc,qc,gp,gs,hC⟩,h6⟩:=hR.n.core i p hp.out
         refine zmz ?_;intro wd hxd;have F17:=f17.ext hxd;have JM:=hR.n.snt.recs.ext SmR.stays hxd;have J7:=hR.e.o7.ext hxd
         refine Ph.gate 0 12 (by kernel_rfl) ?_
         refine LinL.st [(18,none)] rfl (opmv (.pointer (some ⟨p,0,none⟩))) ?_
         refine LinL.st [(14,none)] rfl (opmv (tv)) ?_
         refine LinL.st [(17,none)] rfl (opfo 2 2 2 g17) ?_
         refine LinL.st [(129,some 0)] rfl (opld (.int .i64 x.n) F17) ?_
         refine LinL.st [(14,none)] rfl (opmv (tv)) ?_
         refine LinL.step (s:=(.val (.int .i64 (M.length:Nat)))) [(131,some 0)] rfl (by kernel_rfl) (op_runs rfl fun σ w' hx hg=>⟨_,runs_rlen (ρ := σ.eval) (w:=w') Tryz.elMsgN.elS (.tmp 131) rfl hg.1 (JM.ext SmR.stays hx),rfl⟩) ?_
         refine LinL.step (s:=(.val (.int .i64 (j:Nat)))) [(130,some 2),(132,some 0)] rfl (by kernel_rfl) (op_runs rfl fun σ w' hx hg=>⟨_,runs_remN (ρ := σ.eval) (w:=w') (.tmp 130) (.tmp 132) hn0.out hM0.out hj.out rfl hg.1 hg.2.1,rfl⟩) ?_
         refine LinL.step (s:=(Sp.recp 13 SmR SmR.stays m)) [(128,some 5),(133,some 0)] rfl (by kernel_rfl) (op_runs rfl fun σ w' hx hg=>rridx (ρ := σ.eval) (w:=w') SmR.stays Tryz.elMsgN.elS (.tmp 128) (.tmp 133) j rfl hg.1 hg.2.1 (JM.ext SmR.stays hx) hmj.out) ?_
         refine LinL.step (s:=(Sp.smv m)) [(134,some 0)] rfl (by kernel_rfl) (op_runs rfl fun σ w' hx hg=>by obtain ⟨p',row,h1,h2,h3,u8,h4,h5⟩:=hg.1;subst h5;exact ⟨_,runs_ploadN (w:=w') Tryz.stMsg (ρ := σ.eval) (.tmp 134) rfl h1 h2 rfl,u8,h4,rfl⟩) ?_
         refine LinL.step (s:=(Sp.empty)) [] rfl (by kernel_rfl) (op_empty Tryz.elI rfl rfl) ?_
         refine LinL.st [(7,none)] rfl (opmv (v7)) ?_
         refine LinL.step (s:=(Sp.nint w6.heap.size [65536,131072,196608])) [(136,some 1),(137,some 0)] rfl (by kernel_rfl) (op_cloneN 136 137 1 [(137,some 0)] (by simp) hxd.size (by decide) rfl rfl rfl fun σ w' hx hg=>by rw [hg.2.1];exact Sl.ext J7 hx) ?_
         intro wN hxN
         simp only [Fin',Sp.empty,Sp.nint,Sp.recp,Sp.smv,List.reverse_cons,List.reverse_nil,List.nil_append,List.cons_append,List.drop_zero,List.take_succ_cons,List.take_zero]
         intro q134 hq134 q135 hq135 q136 hq136 q138 hq138
         refine z0z ?_
         obtain ⟨u8,hu8,rfl⟩:=hq135
         have hx4:=hxd.trans hxN
         refine wpOp_call 8 #[.pointer (some ⟨p,0,none⟩), .agg (mRow m.msg u8).toArray,q138] 139 rfl rfl rfl rfl (fun _ _=>rfl) (by simp only [List.map_toArray,List.map_cons,List.map_nil,Act.eval];rfl) ?_
         refine (handle_core (d:=m.msg) (u:=u8) (kn:=[65536,131072,196608]) (hC.ext hx4) h6 (hR.core hil.out hgood.out).2.1 (hR.core hil.out hgood.out).1 (fun _=>hms.out.1) hf0.out hk6.out hq138.1 (new_free hR.n (Nat.le_refl _) hq138.2 i)).mono ?_;rintro e w9 ⟨S9,ov,rfl,kc,k6,kr,_,ks⟩;have hA:=hR.acted hp.out hx4 f17 z17.out ks kc k6 kr hcl.out.1 hcl.out.2.1 hcl.out.2.2;clear hC h6 kc k6 kr ks hx4 hR f17 F17 JM J7 hxd hxN;refine ⟨_,rfl, ?_⟩
         refine z0z ?_
         show Ph Tryz.prog _ _ 13 _ _
         refine Ph.rest 13 1 (by kernel_rfl) ?_
         refine LinL.st [(139,none)] rfl (opmv (ov)) ?_
         intro wN hxN
         refine z2qz ?_
         refine z0z ?_
         have hA9:=hA.ext hxN
         go_wp2
         go_meet
         case rel=>exact ⟨_,hA9⟩
       have e0:(x.k == 0) = false:=by simpa using k0
       by_cases k1:x.k = 1
       ·have e1:(x.k == 1) = true:=by simpa using k1
        clear k1
        as_aux_lemma =>
         by_cases rg:x.m.Right
         rotate_left
         ·have har:=hide_ (decide_eq_false rg)
          have hX6:=Ext.refl w6
          clear rg
          go_wp2_with ((first | refine z2iz ?_ | (go_at_call 9;refine (refMRight_any (d:=x.m) (u:=ua) (hua.out.ext TxR.stays hR.e.x) hav.out hap.out).mono ?_;rintro e we ⟨rfl,hx⟩;rw [har.out];replace f17:=f17.ext hx;replace hR:=hR.ext hx;replace hX6:=hX6.trans hx;clear hx) | fail) <;> (try refine z0z ?_))
          go_meet
          case rel=>exact z6kz
         have har:=hide_ (decide_eq_true rg)
         have hrg:=hide_ rg
         obtain ⟨f,hfm0'⟩:∃ f:Nat,x.m.fm = (f:Int):=⟨x.m.fm.toNat,by have:=rg.1.1;omega⟩
         have hfm:=hide_ hfm0'
         have hf7:=hide_ (show f < 7 from by have:=rg.1.2;omega)
         have hfm0:=hide_ (show 0≤x.m.fm from by omega)
         obtain ⟨qf,hqf0⟩:∃ qf,inn bl f = qf:=⟨_,rfl⟩
         have hwf:=hide_ (show (wrg bl)[f]? = some (.bool qf) from by rw [wrg_inn bl hf7.out,hqf0])
         cases qf
         ·have hX6:=Ext.refl w6
          clear rg hqf0 hfm0'
          go_wp2_with ((first | refine z63z ?_ | (go_at_call 9;refine (refMRight_any (d:=x.m) (u:=ua) (hua.out.ext TxR.stays hR.e.x) hav.out hap.out).mono ?_;rintro e we ⟨rfl,hx⟩;rw [har.out];replace f17:=f17.ext hx;replace hR:=hR.ext hx;replace hX6:=hX6.trans hx;clear hx) | refine z3qz ?_ | fail) <;> (try refine z0z ?_))
          go_meet
          case rel=>exact z6kz
         obtain ⟨ho0,hsp0,_⟩:=hR.core hil.out hgood.out
         have ho:=hide_ ho0
         have hsp:=hide_ hsp0
         have hok:=hide_ (fun h:3≤x.m.kd=>(rg.heard h).1)
         have hk6:=hide_ rg.2.1.2
         have hcl:=hide_ (hR.hears hil.out hgood.out (m:=x.m.msv) (fun h=>⟨(rg.heard h).1, .inl (by show inn bl x.m.fm.toNat = true;rw [hfm0',Int.toNat_natCast];exact hqf0)⟩) (show 0≤x.m.fm from hfm0.out) [65536,131072,196608])
         clear rg hqf0 hfm0' ho0 hsp0
         go_wp2_with ((first | refine z63z ?_ | (go_at_call 9;refine (refMRight_any (d:=x.m) (u:=ua) (hua.out.ext TxR.stays hR.e.x) hav.out hap.out).mono ?_;rintro e we ⟨rfl,hx⟩;rw [har.out];replace f17:=f17.ext hx;replace hR:=hR.ext hx;clear hx) | refine z3qz ?_ | (go_at_call 10;refine (refMCopy_any (d:=x.m) (u:=ua) (hua.out.ext TxR.stays hR.e.x) haf.out).mono ?_;rintro e wf ⟨uc,rfl,_,hx⟩;replace f17:=f17.ext hx;replace hR:=hR.ext hx;clear hx) | (refine z3lz ?_;intro v3 wc hx3 ho3;have o3:OwnI _ wc v3 []:=ho3;clear ho3) | (refine z5jz ?_;intro vm wd ho4 hb4 hg4 hl4;have hx4:=hx3.trans' hb4;rw [List.nil_append] at ho4;have hks:=own_free hR.n hx4 ho4 i;have hkn:=ho4.ints;clear hb4 hg4 hl4 o3 hx3 ho4) | (go_at_call 8;obtain ⟨⟨sv,dvc,qc,gp,gs,hC⟩,h6⟩:=hR.n.core i p hp.out;refine (handle_core (d:=x.m) (u:=uc) (kn:=[65536,131072,196608]) (hC.ext hx4) h6 hsp.out ho.out hok.out hfm0.out hk6.out hkn hks).mono ?_;rintro e w9 ⟨S9,ov,rfl,kc,k6,kr,_,ks⟩;have hA:=hR.acted hp.out hx4 f17 z17.out ks kc k6 kr hcl.out.1 hcl.out.2.1 hcl.out.2.2;clear hC h6 kc k6 kr ks hx4 hkn hks hR f17) | fail) <;> (try refine z0z ?_))
         go_meet
         case rel=>exact ⟨_,hA⟩
       have e1:(x.k == 1) = false:=by simpa using k1
       by_cases k2:x.k = 2
       ·have e2:(x.k == 2) = true:=by simpa using k2
        clear k2
        as_aux_lemma =>
         by_cases n0:0 < x.n
         rotate_left
         ·have tn:decide (0 < x.n) = false:=decide_eq_false n0
          have tn':decide (x.n > 0) = false:=decide_eq_false n0
          have htp:=hide_ (show NV 0 from NV.zero)
          clear n0
          obtain ⟨ho0,hsp0,_⟩:=hR.core hil.out hgood.out
          have ho:=hide_ ho0
          have hsp:=hide_ hsp0
          have hcl:=hide_ (hR.ticks hil.out hgood.out htp.out [65536,131072,196608])
          clear ho0 hsp0
          go_wp2_with ((first | go_big_skip | refine z6z ?_ | (refine z3lz ?_;intro v3 wc hx3 ho3;have o3:OwnI _ wc v3 []:=ho3;clear ho3) | (refine z5jz ?_;intro vm wd ho4 hb4 hg4 hl4;have hx4:=hx3.trans' hb4;rw [List.nil_append] at ho4;have hks:=own_free hR.n hx4 ho4 i;have hkn:=ho4.ints;clear hb4 hg4 hl4 o3 hx3 ho4) | (go_at_call 11;obtain ⟨⟨sv,dvc,qc,gp,gs,hC⟩,h6⟩:=hR.n.core i p hp.out;refine (tick_core (kn:=[65536,131072,196608]) (hC.ext hx4) h6 hsp.out ho.out htp.out hkn hks).mono ?_;rintro e w9 ⟨S9,ov,rfl,kc,k6,kr,_,ks⟩;have hA:=hR.acted hp.out hx4 f17 z17.out ks kc k6 kr hcl.out.1 hcl.out.2.1 hcl.out.2.2;clear hC h6 kc k6 kr ks hx4 hkn hks hR f17) | fail) <;> (try refine z0z ?_))
          go_meet
          case rel=>exact ⟨_,hA⟩
         have tn:decide (0 < x.n) = true:=decide_eq_true n0
         have tn':decide (x.n > 0) = true:=decide_eq_true n0
         obtain ⟨r,hr0⟩:∃ r,r = x.n.toNat % 3:=⟨_,rfl⟩
         have hr:=hide_ hr0
         have hn0:=hide_ (show 0≤x.n by omega)
         have hr3:=hide_ (show r < ([65536,131072,196608]:List Int).length from by rw [hr0];exact Nat.mod_lt _ (by decide))
         obtain ⟨tip,htip0⟩:∃ tip,([65536,131072,196608]:List Int)[r]'(hr3.out) = tip:=⟨_,rfl⟩
         have htip:=hide_ htip0
         have htp:=hide_ (show NV tip from knw_nv (htip0 ▸ List.getElem_mem hr3.out))
         clear n0 hr0 htip0
         obtain ⟨ho0,hsp0,_⟩:=hR.core hil.out hgood.out
         have ho:=hide_ ho0
         have hsp:=hide_ hsp0
         have hcl:=hide_ (hR.ticks hil.out hgood.out htp.out [65536,131072,196608])
         clear ho0 hsp0
         go_wp2_with ((first | go_big_skip | refine z6z ?_ | refine w_remC (q:=3) _ hn0.out (by decide) hr.out rfl rfl rfl ?_ | ((with_reducible refine at_idx ?_);refine i_idx _ _ r rfl rfl rfl hR.e.o7 rfl hr3.out ?_;intro ad2 had2;rw [htip.out] at had2) | (refine z3lz ?_;intro v3 wc hx3 ho3;have o3:OwnI _ wc v3 []:=ho3;clear ho3) | (refine z5jz ?_;intro vm wd ho4 hb4 hg4 hl4;have hx4:=hx3.trans' hb4;rw [List.nil_append] at ho4;have hks:=own_free hR.n hx4 ho4 i;have hkn:=ho4.ints;clear hb4 hg4 hl4 o3 hx3 ho4) | (go_at_call 11;obtain ⟨⟨sv,dvc,qc,gp,gs,hC⟩,h6⟩:=hR.n.core i p hp.out;refine (tick_core (kn:=[65536,131072,196608]) (hC.ext hx4) h6 hsp.out ho.out htp.out hkn hks).mono ?_;rintro e w9 ⟨S9,ov,rfl,kc,k6,kr,_,ks⟩;have hA:=hR.acted hp.out hx4 f17 z17.out ks kc k6 kr hcl.out.1 hcl.out.2.1 hcl.out.2.2;clear hC h6 kc k6 kr ks hx4 hkn hks hR f17) | fail) <;> (try refine z0z ?_))
         go_meet
         case rel=>exact ⟨_,hA⟩
       have e2:(x.k == 2) = false:=by simpa using k2
       by_cases k3:x.k = 3
       ·have e3:(x.k == 3) = true:=by simpa using k3
        clear k3
        as_aux_lemma =>
         have hjl0:=hR.jl
         have hij0:i < js.length:=by have:=hil.out;omega
         obtain ⟨vj,hvj0⟩:∃ vj,js[i]? = some vj:=⟨_,List.getElem?_eq_getElem hij0⟩
         have hij:=hide_ hij0
         have hvj:=hide_ (show js[i]'(hij.out) = vj from by rw [List.getElem?_eq_getElem hij0] at hvj0;injection hvj0)
         have hjr:=hide_ (hR.n.jour i vj hvj0)
         have hJe:=hide_ (hR.a.jr i hil.out hgood.out)
         have hjok:=hide_ (show JOk (J i) from by rw [hJe.out];exact jok_jour hR.a.clus.ok i)
         have hJl:=hide_ (show (J i).length≤2003604000 from Nat.le_trans (hR.jb i) hL9.out)
         have hjb:=hide_ (show (0 + ((J i).map rcRow).length) * 56≤140737488355328 from by rw [List.length_map];exact Nat.le_trans (Nat.mul_le_mul_right 56 (show 0 + (J i).length≤2003604000 by have:=hJl.out;omega)) (by decide))
         have hdl:=hide_ (show ((CoD.new i g.st g.base g.most).dec.length + (J i).length + 1) * 8≤140737488355328 from Nat.le_trans (Nat.mul_le_mul_right 8 (show 0 + (J i).length + 1≤2003604001 by have:=hJl.out;omega)) (by decide))
         clear hjl0 hij0 hvj0
         go_wp2
         refine zmz ?_;intro wd hxd;have F17:=f17.ext hxd;have F3:=hR.e.f3.ext hxd;have J3:=hu.out.ext (hR.e.x.trans hxd);have hgs:=hide_ hg.out.st
         refine Ph.rest 0 12 (by kernel_rfl) ?_
         refine LinL.st [(17,none)] rfl (opfo 1 1 1 g17) ?_
         refine LinL.st [(179,some 0)] rfl (opld (.int .i64 x.to) F17) ?_
         refine z3zz ?_
         refine LinL.st [(182,some 0)] rfl (opld (ug) F3) ?_
         refine LinL.step (s:=(.sl (i64s g.st))) [(181,some 2),(183,some 0)] rfl (by kernel_rfl) (op_clone Tryz.elI 181 183 2 [(183,some 0)] (i64s_one g.st) (by rw [i64s_length];have:=hgl6.out;omega) rfl rfl rfl fun σ w' hx hg=>by rw [hg.2.1];exact J3.ext hx) ?_
         refine z53z ?_
         refine LinL.st [(185,some 0)] rfl (opld (.int .i64 g.base) F3) ?_
         refine z54z ?_
         refine LinL.st [(187,some 0)] rfl (opld (.int .i64 g.most) F3) ?_
         refine LinL.step (s:=(Sp.newc w6 i g)) [(180,some 8),(184,some 4),(186,some 2),(188,some 0)] rfl (by kernel_rfl) (op_calls 7 #[(.tmp 180),(.tmp 184),(.tmp 186),(.tmp 188)] #[3,22,3,3] (fun σ => #[.int .i64 x.to,σ.tmps.getD 184 undef, .int .i64 g.base, .int .i64 g.most]) rfl rfl (fun _ _=>rfl) fun σ w' hx hg=>⟨by have h180 : σ.tmps.getD 180 undef = .int .i64 x.to:=hg.1;have h186 : σ.tmps.getD 186 undef = .int .i64 g.base:=hg.2.2.1;have h188 : σ.tmps.getD 188 undef = .int .i64 g.most:=hg.2.2.2.1;simp only [List.map_toArray,List.map_cons,List.map_nil,Act.eval,h180,h186,h188],(by rw [hto.out];exact retN (hxd.trans hx) (New_any (me:=i) (base:=g.base) (most:=g.most) hg.2.1 hgs.out hil.out))⟩) ?_
         refine LinL.step (s:=(Sp.newc w6 i g)) [(189,some 0)] rfl (by kernel_rfl) (op_copy 189 0 (Sp.newc w6 i g) rfl (.inr rfl) rfl) ?_
         intro wN hxN
         simp only [Fin',Sp.empty,Sp.newc,List.reverse_cons,List.reverse_nil,List.nil_append,List.cons_append,List.drop_zero,List.take_succ_cons,List.take_zero]
         intro q181 hq181 q184 hq184 q189 hq189 q18 hq18
         refine z0z ?_
         obtain ⟨p2,S2,rfl,hnc⟩:=hq18
         have hxN0:=hxd.trans hxN
         have fN:=f17.ext hxN0
         have hX:=Ext.refl wN
         have hP0:=hide_ (hR.n.jrow.ext hxN0)
         clear hxd hxN F17 F3 J3 hgs hq189
         go_wp2_with ((first | go_big_skip | ((with_reducible refine at_field ?_);(try refine w_yes _ _ _ rfl rfl rfl ?_);refine w_fieldB (t:=44) (i:=0) (off:=0) (by kernel_rfl) rfl _ _ rfl rfl rfl ?_) | ((with_reducible refine at_field ?_);(try refine w_yes _ _ _ rfl rfl rfl ?_);refine w_fieldB (t:=44) (i:=1) (off:=1) (by kernel_rfl) rfl _ _ rfl rfl rfl ?_) | ((with_reducible refine at_field ?_);(try refine w_yes _ _ _ rfl rfl rfl ?_);refine w_fieldB (t:=44) (i:=2) (off:=2) (by kernel_rfl) rfl _ _ rfl rfl rfl ?_) | ((with_reducible refine at_load ?_);(try refine w_yes _ _ _ rfl rfl rfl ?_);refine w_fload _ rfl rfl rfl (fN.ext hX) rfl (agg_of (by kernel_rfl)) ?_) | (refine z5sz ?_;intro v191 wa B hB1 hB2 hx hn6;have hP:RowN (fun q=>wN.heap.size≤q) wa _ 5 v191 []:=hn6.mono fun q hq=>Nat.le_trans (Nat.le_trans hX.size hB1) hq.1;replace hX:=hX.trans hx;clear hx hn6 hB1 hB2) | ((with_reducible refine at_idx ?_);refine w_idx Tryz.elRs _ _ i rfl rfl rfl (hP0.out.ext hX).sl (by rw [hto.out];rfl) hij.out ?_;intro ad3 had3;rw [hvj.out] at had3) | ((with_reducible refine at_bi ?_);refine w_napp0 Tryz.elRcd _ _ rfl rfl rfl rfl hP ((hjr.out.ext (hxN0.trans hX)).slS) (rcs_one (J i)) hjb.out ?_;intro v197 wb2 hm1 hP1;have hXb:=hm1.after hX (fun j e=>e);replace hP1:=hide_ (hP1.mono (G:=fun k=>wN.heap.size≤k) fun q hq=>hq.elim id fun q1=>Nat.le_trans hX.size q1.1);clear hP hm1) | (go_at_call 12;obtain ⟨sv2,dv2,qc2,gp2,gs2,hC2⟩:=hnc.2.1;refine (Restore_core (J:=J i) (hC2.ext hXb) (fresh_new i g.st g.base g.most) hjok.out (hP1.out.mono fun q hq=>(by by_cases e:S2 q = 0;exact e;have:=hC2.bnd q e;omega)) hdl.out).mono ?_;rintro e w9 ⟨rfl,S3,dv3,hC3,hs3⟩;obtain ⟨S4,hC4,hs4,h64⟩:=hC3.low hnc.2.2.1 hs3;obtain ⟨Z5,hn5,he5,ho5,f17r,z5,hzz⟩:=hR.n.restored hR.e (by simp) (i:=i) (hxN0.trans hXb) hnc.2.2.2 hs4 f17 z17.out;have hav5:=hide_ ((hav0.out.ext (hxN0.trans hXb)).mod hs4.mod (fun q hq e=>by have h1:=hnc.2.2.2 q (by omega);have h2:=hq.2;omega));have hF5:=hide_ (fun q hq=>(⟨(hzz q (hFz.out q hq).2).trans (hFz.out q hq).1,Nat.lt_of_lt_of_le (hFz.out q hq).2 (Nat.le_trans (hxN0.trans hXb).size hs4.mod.size)⟩:Z5 q = 0∧q < w9.heap.size));clear hC2 hC3 hs3 hs4 hXb hX hP1 fN hzz) | ((with_reducible refine at_load ?_);(try refine w_yes _ _ _ rfl rfl rfl ?_);refine w_fload _ rfl rfl rfl f17r rfl (agg_of (by kernel_rfl)) ?_) | ((with_reducible refine at_idx ?_);refine w_oidx Tryz.elPc _ _ rfl rfl rfl hn5.prow.own (by rw [hto.out];rfl) hilp.out ?_;intro gq hgq _ _) | ((with_reducible refine at_store ?_);refine w_rstore Tryz.elPc _ _ rfl rfl rfl rfl rfl rfl hn5.prow hgq hilp.out ?_;intro w10 hm10 hr10;have hA:=hR.stored hil.out hgood.out hn5 he5 ho5 ⟨_,_,_,_,_,hC4⟩ h64 f17r z5 hm10 hr10 hav5.out hF5.out;clear hm10 hr10 hn5 he5) | fail) <;> (try refine z0z ?_))
         go_meet
         case rel=>exact ⟨_,hA⟩
       have e3:(x.k == 3) = false:=by simpa using k3
       clear k0 k1 k2 k3
       go_wp2_with ((first | go_big_skip | refine z6z ?_ | fail) <;> (try refine z0z ?_))
       go_meet
       case rel=>exact ⟨_,hR.idle hp.out f17 z17.out hav0.out hFz.out⟩
      case rest =>
       as_aux_lemma =>
        obtain ⟨ac,hA⟩:=hcut
        obtain ⟨Z1,S1,cs1,ps1,p1,F1,hu18,hp10,hpl10,hN10,hE10,hAg0,f17c0,z17c0,hav10,hF10,hfew0,hfm0⟩:=hA.ex
        obtain ⟨v18,hv18⟩:∃ va,va = u18:=⟨_,rfl⟩
        rw [← hv18] at hu18
        subst hv18
        subst hu18
        have hjl0:=hR.jl
        have hij0:i < js.length:=by have:=hil.out;omega
        obtain ⟨vj,hvj0⟩:∃ vj,js[i]? = some vj:=⟨_,List.getElem?_eq_getElem hij0⟩
        have hjb:=hide_ (show ((J i).length + ac.length + 1) * 56≤140737488355328 from Nat.le_trans (Nat.mul_le_mul_right 56 (show (J i).length + ac.length + 1≤2013622021 by have h1:=hR.jb i;have h2:=hL9.out;omega)) (by decide))
        have hjbs:=hide_ (show ∀ j,(if j = i then J i ++ jour i ac else J j).length≤(L ++ ac).length from fun j=>by
         have h1:=hR.jb j
         have h2:=jour_len i ac
         rw [List.length_append]
         by_cases e:j = i
         ·subst e;rw [if_pos rfl,List.length_append];omega
         ·rw [if_neg e];omega)
        have hML:=hide_ (show M.length≤2003604000 from by rw [hR.a.ms,List.length_map];exact hL9.out)
        obtain ⟨gj,cap,hjv90,_,_,hcl0,_,_⟩:=own_at hN10.jrow.own hij0
        have hij:=hide_ hij0
        have hjv9:=hide_ hjv90
        have hgj:=hide_ (show jv.ownBlock = some gj from by rw [hjv90];rfl)
        have hcl:=hide_ (show RowAt wc ⟨gj,i,none⟩ [vj] from rowAt_cell (by rw [hcl0];rw [List.getElem?_eq_getElem hij0] at hvj0;exact hvj0))
        have hjr:=hide_ (hN10.jour i vj hvj0)
        have hN1:=hide_ hN10
        have hE1:=hide_ hE10
        have hAg:=hide_ hAg0
        have f17c:=hide_ f17c0
        have z17c:=hide_ z17c0
        have hav1:=hide_ hav10
        have hF1:=hide_ hF10
        have hfew:=hide_ hfew0
        have hfm:=hide_ hfm0
        have hp1:=hide_ hp10
        have hpl1:=hide_ (show ps1.length = g.st.length from hpl10.trans hpl.out)
        have hjl1:=hide_ (show (js.set i vj).length = g.st.length from by rw [List.length_set];exact hjl0)
        clear hA hR f17 hjl0 hij0 hvj0 hjv90 hcl0 hN10 hE10 hAg0 f17c0 z17c0 hav10 hF10 hfew0 hfm0 hp10 hpl10
        go_wp2
        refine zmz ?_;intro wd hxd;have F17:=f17c.out.ext hxd;have HCL:=hcl.out.ext hxd
        refine Ph.gate 0 13 (by kernel_rfl) ?_
        refine LinL.st [(9,none)] rfl (opmv (jv)) ?_
        refine LinL.st [(17,none)] rfl (opfo 1 1 1 g17) ?_
        refine LinL.st [(205,some 0)] rfl (opld (.int .i64 x.to) F17) ?_
        refine LinL.st [(9,none)] rfl (opmv (jv)) ?_
        refine LinL.st [(17,none)] rfl (opfo 1 1 1 g17) ?_
        refine LinL.st [(208,some 0)] rfl (opld (.int .i64 x.to) F17) ?_
        refine LinL.step (s:=(.val (.pointer (some ⟨gj,i,none⟩)))) [(207,some 2),(209,some 0)] rfl (by kernel_rfl) (op_runs rfl fun σ w' hx hg=>⟨_,runs_oidx Tryz.elRs (ρ := σ.eval) (w:=w') (.tmp 207) (.tmp 209) rfl hg.1 hjv9.out (hg.2.1.trans (by rw [hto.out])) hij.out,rfl⟩) ?_
        refine LinL.step (s:=(.val (vj))) [(210,some 0)] rfl (by kernel_rfl) (op_runs rfl fun σ w' hx hg=>⟨_,runs_cload (ρ := σ.eval) (w:=w') (.tmp 210) rfl hg.1 (HCL.ext hx) (by kernel_rfl),rfl⟩) ?_
        refine LinL.st [(19,none)] rfl (opmv (u19)) ?_
        refine LinL.st [(17,none)] rfl (opfo 1 1 1 g17) ?_
        refine LinL.st [(213,some 0)] rfl (opld (.int .i64 x.to) F17) ?_
        refine LinL.step (s:=(Sp.nrec wc ((J i ++ jour i ac).map rcRow))) [(211,some 3),(212,some 2),(214,some 0)] rfl (by kernel_rfl) (op_calls 13 #[(.tmp 211),(.tmp 212),(.tmp 214)] #[34,45,3] (fun σ => #[vj,u19, .int .i64 x.to]) rfl rfl (fun _ _=>rfl) fun σ w' hx hg=>⟨by have h211 : σ.tmps.getD 211 undef = vj:=hg.1;have h212 : σ.tmps.getD 212 undef = u19:=hg.2.1;have h214 : σ.tmps.getD 214 undef = .int .i64 x.to:=hg.2.2.1;simp only [List.map_toArray,List.map_cons,List.map_nil,Act.eval,h211,h212,h214],(by rw [hto.out];exact retJ (hxd.trans hx) (recs_any ((hjr.out.ext (hxd.trans hx)).slS) ((hav1.out.ext (hxd.trans hx)).acts) hjb.out))⟩) ?_
        refine LinL.step (s:=(.val (.pointer (some ⟨gj,i,none⟩)))) [(204,some 11),(206,some 9)] rfl (by kernel_rfl) (op_runs rfl fun σ w' hx hg=>⟨_,runs_oidx Tryz.elRs (ρ := σ.eval) (w:=w') (.tmp 204) (.tmp 206) rfl hg.1 hjv9.out (hg.2.1.trans (by rw [hto.out])) hij.out,rfl⟩) ?_
        intro wN hxN
        simp only [Fin',Sp.nrec,List.reverse_cons,List.reverse_nil,List.nil_append,List.cons_append,List.drop_zero,List.take_succ_cons,List.take_zero]
        intro q215 hq215
        refine z0z ?_
        have hx45:=hxd.trans hxN
        refine zgz ?_
        refine w_rstore Tryz.elRs _ _ rfl rfl rfl rfl rfl (slS_one hq215.slS) (hN1.out.jrow.ext hx45) hgj.out hij.out ?_
        intro w9 hm9 hr9
        obtain ⟨Z2,hN2,hE2,_,_,hav2,hF2⟩:=hN1.out.told hE1.out (by simp) hx45 hq215 hm9 hr9 f17c.out z17c.out hav1.out hF1.out
        show Ph Tryz.prog _ _ 14 _ _
        refine Ph.rest 14 0 (by kernel_rfl) ?_
        intro wM hxM
        refine zuz ?_
        have hN3:=hN2.ext hxM
        have hE3:=hE2.ext hxM
        have hav3:=hav2.ext hxM
        have hF3:∀ k,F1 k→Z2 k = 0∧k < wM.heap.size:=fun k hk=>⟨(hF2 k hk).1,Nat.lt_of_lt_of_le (hF2 k hk).2 hxM.size⟩
        obtain ⟨js2,hjs2⟩:∃ js2,js.set i q215 = js2:=⟨_,rfl⟩
        have hjl2:=hide_ (show js2.length = g.st.length from by rw [← hjs2,List.length_set, ← hjl1.out,List.length_set])
        rw [hjs2] at hN3
        clear hN2 hE2 hav2 hF2 hxM hm9 hr9 hjs2 hx45 hxd hxN F17 HCL
        go_wp2_with ((first | go_big_skip | ((with_reducible refine at_bi ?_);refine w_rlen Tryz.elAct _ rfl rfl rfl hav3.acts ?_) | fail) <;> (try refine z0z ?_))
        go_loopw [14,219] (fun u14 i2 wy => ∃ (y:Nat) (Z:Nat→Nat),i2 = .int .i64 y∧y≤ac.length∧NetW Z wy pv jv u14 dv ps1 js2 S1 cs1 (fun j=>if j = i then J i ++ jour i ac else J j) (M ++ (ac.take y).map (·.m)) D∧Env Z W wy g3 g10 (g.row ug) (wrg bl) v7 [65536,131072,196608]∧RowN F1 wy 53 14 u19 (ac.map acRow)∧∀ k,F1 k→Z k = 0∧k < wy.heap.size) (fun _ i2 _=>ac.length - (RowKit.intOf i2).toNat)
        case atStart=>exact ⟨0,Z2,rfl,Nat.zero_le _,by simpa using hN3,hE3,hav3,hF3⟩
        case round =>
         clear hN3 hE3 hav3 hF3
         obtain ⟨y,Z3,rfl,hy,hN3,hE3,hav3,hF3⟩:=hrel
         obtain ⟨tv3,htv3⟩:∃ va,va = u14:=⟨_,rfl⟩
         rw [← htv3] at hN3
         subst htv3
         by_cases hge:ac.length≤y
         ·obtain rfl:y = ac.length:=by omega
          have t9:decide (ac.length < ac.length) = false:=by simp
          rw [List.take_length] at hN3
          clear hge hy
          as_aux_lemma =>
           have hag:=hAg.out
           obtain ⟨ho0,hsp0,_⟩:=hAg.out.clus.core i hil.out hgood.out
           have hdl0:(cs1 i).dec.length≤1001:=(hAg.out.clus.core i hil.out hgood.out).2.2.2.1.dl
           have hdl:=hide_ (show (cs1 i).dec.length * 8≤140737488355328 from by omega)
           obtain ⟨dec,hdec0⟩:∃ dec,(cs1 i).dec = dec:=⟨_,rfl⟩
           have hdec:=hide_ hdec0
           have hdl9:=hide_ (show dec.length≤1001 from hdec0 ▸ hdl0)
           clear hag ho0 hsp0 hdl0 hdec0 hF3
           go_wp2_with ((first | (go_at_call 14;obtain ⟨⟨sv,dvc,qc,gp,gs,hC⟩,_⟩:=hN3.core i p1 hp1.out;refine (Decisions_core hC hdl.out).mono ?_;rintro e wD ⟨v231,rfl,o231,hx⟩;rw [hdec.out] at o231;have hfr:=hide_ (show ∀ q,v231.ownBlock = some q→Z3 q = 0∧q < wD.heap.size from fun q hq=>⟨hN3.free (own_block_lt (g:=q) o231 hq).1,(own_block_lt (g:=q) o231 hq).2⟩);have i231:=o231.ints;replace hN3:=hN3.ext hx;replace hE3:=hE3.ext hx;clear hx hC o231 hav3) | ((with_reducible refine at_bi ?_);refine i_len _ rfl rfl rfl i231 ?_) | fail) <;> (try refine z0z ?_))
           go_loopw [15,233] (fun u15 i2 wz => ∃ (y:Nat) (Z:Nat→Nat) (D2:List Int),i2 = .int .i64 y∧y≤dec.length∧NetW Z wz pv jv tv3 u15 ps1 js2 S1 cs1 (fun j=>if j = i then J i ++ jour i ac else J j) (M ++ ac.map (·.m)) D2∧Env Z W wz g3 g10 (g.row ug) (wrg bl) v7 [65536,131072,196608]∧AgInv (fun j=>inn bl j = true) NV g.st g.base g.most cs1 (L ++ ac) (fun j=>if j = i then J i ++ jour i ac else J j) (M ++ ac.map (·.m)) D2∧D2.length≤1001∧y≤D2.length∧Ints wz v231 dec∧∀ q,v231.ownBlock = some q→Z q = 0∧q < wz.heap.size) (fun _ i2 _=>dec.length - (RowKit.intOf i2).toNat)
           case atStart=>exact ⟨0,Z3,D,rfl,Nat.zero_le _,hN3,hE3,hAg.out,hD1.out,Nat.zero_le _,i231,hfr.out⟩
           case round =>
            clear hN3 hE3 i231 hfr
            obtain ⟨y,Z4,D2,rfl,hy,hN3,hE3,hag0,hD20,hyD0,i231,hfr0⟩:=hrel
            obtain ⟨dv3,hdv3⟩:∃ va,va = u15:=⟨_,rfl⟩
            rw [← hdv3] at hN3
            subst hdv3
            by_cases hge:dec.length≤y
            ·obtain rfl:y = dec.length:=by omega
             have tA9:decide (dec.length < dec.length) = false:=by simp
             have hRS:RS W wr g bl g3 g10 ug v7 pv jv tv3 dv3 Z4 S1 ps1 js2 cs1 (L ++ ac) (fun j=>if j = i then J i ++ jour i ac else J j) (M ++ ac.map (·.m)) D2:=⟨hN3,hE3,hag0,hpl1.out,hjl2.out,hjbs.out,hfm.out⟩
             have hLL:=hide_ (show (L ++ ac).length≤(k + 1) * 10018020 from by rw [List.length_append,Nat.add_mul,Nat.one_mul];exact Nat.add_le_add hLk9.out hfew.out)
             clear hge hy hN3 hE3 hag0 hyD0 hfr0 i231
             go_wp2
             go_roundw
             case rel=>exact ⟨k + 1,Z4,S1,ps1,js2,cs1,L ++ ac,_,_,D2,by go_num,hlt'.out,hRS,hLL.out,hD20⟩
             case measure=>have:=hlt'.out;simp [RowKit.intOf];omega
            have hlt2:y < dec.length:=by omega
            have tA9:decide (y < dec.length) = true:=decide_eq_true hlt2
            obtain ⟨v,hv0⟩:∃ v,dec[y] = v:=⟨_,rfl⟩
            have hylt:=hide_ hlt2
            have hvy:=hide_ (show dec[y]'(hylt.out) = v from hv0)
            have hvd:=hide_ (show (cs1 i).dec[y]? = some v from by rw [hdec.out,List.getElem?_eq_getElem hlt2,hv0])
            have hyb:y≤1001:=by have:=hdl9.out;omega
            have hag:=hide_ hag0
            have hD2:=hide_ hD20
            have hfr:=hide_ hfr0
            by_cases hyD:y < D2.length
            ·have tB:decide (y < D2.length) = true:=decide_eq_true hyD
             have tB2:decide ((y:Int) < (D2.length:Int)) = true:=decide_eq_true (by omega)
             have tC:decide (D2.length≤y) = false:=decide_eq_false (by omega)
             have tC2:decide ((D2.length:Int)≤(y:Int)) = false:=decide_eq_false (by omega)
             have tC3:decide (y ≥ D2.length) = false:=decide_eq_false (by omega)
             have tC4:decide ((y:Int) ≥ (D2.length:Int)) = false:=decide_eq_false (by omega)
             have hyD2:=hide_ hyD
             have hDv:=hide_ (show D2[y]'(hyD2.out) = v from hag0.same hg.out.st hfb.out hil.out hgood.out hvd.out (List.getElem?_eq_getElem hyD))
             have hyD3:=hide_ (show y + 1≤D2.length by omega)
             clear hge hlt2 hv0 hy hyD hyD0 hag0 hD20 hfr0
             go_wp2_with ((first | go_big_skip | ((with_reducible refine at_idx ?_);(try refine w_yes _ _ _ rfl rfl rfl ?_);refine i_idx _ _ y rfl rfl rfl i231 rfl hylt.out ?_;intro ad4 had4;rw [hvy.out] at had4) | ((with_reducible refine at_idx ?_);(try refine w_yes _ _ _ rfl rfl rfl ?_);refine i_idx _ _ y rfl rfl rfl hN3.dcd.sl rfl hyD2.out ?_;intro ad5 had5;rw [hDv.out] at had5) | ((with_reducible refine at_bi ?_);(try refine w_yes _ _ _ rfl rfl rfl ?_);refine i_len _ rfl rfl rfl hN3.dcd.sl ?_) | fail) <;> (try refine z0z ?_))
             go_roundw
             case rel=>exact ⟨y + 1,Z4,D2,by go_num,hylt.out,hN3,hE3,hag.out,hD2.out,hyD3.out,i231,hfr.out⟩
             case measure=>have:=hylt.out;simp [RowKit.intOf];omega
            have eyD:y = D2.length:=by omega
            have tB:decide (y < D2.length) = false:=decide_eq_false (by omega)
            have tB2:decide ((y:Int) < (D2.length:Int)) = false:=decide_eq_false (by omega)
            have tC:decide (D2.length≤y) = true:=decide_eq_true (by omega)
            have tC2:decide ((D2.length:Int)≤(y:Int)) = true:=decide_eq_true (by omega)
            have tC3:decide (y ≥ D2.length) = true:=decide_eq_true (by omega)
            have tC4:decide ((y:Int) ≥ (D2.length:Int)) = true:=decide_eq_true (by omega)
            have hag2:=hide_ (hag0.more hil.out hgood.out (v:=v) (by rw [← eyD];exact hvd.out))
            have hD3:=hide_ (show (D2 ++ [v]).length≤1001 from by rw [List.length_append,List.length_singleton];have:=hdl9.out;omega)
            have hyD3:=hide_ (show y + 1≤(D2 ++ [v]).length from by rw [List.length_append,List.length_singleton];omega)
            have hDb:=hide_ (show ((i64s D2).length + (i64s [v]).length) * 8≤140737488355328 from by rw [i64s_length,i64s_length];have:=hD2.out;simp;omega)
            clear hge hlt2 hv0 hy hyD hyD0 hag0 hD20 eyD hfr0
            go_wp2_with ((first | go_big_skip | ((with_reducible refine at_idx ?_);(try refine w_yes _ _ _ rfl rfl rfl ?_);refine i_idx _ _ y rfl rfl rfl i231 rfl hylt.out ?_;intro ad4 had4;rw [hvy.out] at had4) | ((with_reducible refine at_bi ?_);(try refine w_yes _ _ _ rfl rfl rfl ?_);refine i_len _ rfl rfl rfl hN3.dcd.sl ?_) | ((with_reducible refine at_lit ?_);refine w_new Tryz.elI (i64s [v]) rfl rfl rfl (i64s_cells _) rfl (by omega) ?_;intro v256 w6c hx3 o3;have o3s:=Sl.of_own o3;replace hN3:=hN3.ext hx3;replace hE3:=hE3.ext hx3;replace i231:=i231.ext hx3;have hfr2:=hide_ (show ∀ q,v231.ownBlock = some q→Z4 q = 0∧q < w6c.heap.size from fun q hq=>⟨(hfr.out q hq).1,Nat.lt_of_lt_of_le (hfr.out q hq).2 hx3.size⟩);clear hx3 o3) | ((with_reducible refine at_bi ?_);refine w_rapp Tryz.elI _ _ rfl rfl rfl rfl hN3.dcd o3s (i64s_one [v]) hDb.out ?_;intro v257 w7c hm7 hr7 _;rw [← i64s_append] at hr7;obtain ⟨Z5,hN5,hE5,hZ5⟩:=hN3.decided hE3 (by simp) hm7 hr7;have i9:=ints_mod i231 hm7 (fun q hq e=>by have h1:=(hfr2.out q hq).1;have h2:Z4 q = 4:=e;omega);have hfr3:=hide_ (show ∀ q,v231.ownBlock = some q→Z5 q = 0∧q < w7c.heap.size from fun q hq=>⟨(hZ5 q (hfr2.out q hq).2).trans (hfr2.out q hq).1,Nat.lt_of_lt_of_le (hfr2.out q hq).2 hm7.size⟩);clear hN3 hE3 hm7 hr7 i231 o3s) | fail) <;> (try refine z0z ?_))
            go_roundw
            case rel=>exact ⟨y + 1,Z5,D2 ++ [v],by go_num,hylt.out,hN5,hE5,hag2.out,hD3.out,hyD3.out,i9,hfr3.out⟩
            case measure=>have:=hylt.out;simp [RowKit.intOf];omega
         have hlt:y < ac.length:=by omega
         have t9:decide (y < ac.length) = true:=decide_eq_true hlt
         obtain ⟨a,ha0⟩:∃ a,ac[y]? = some a:=⟨_,List.getElem?_eq_getElem hlt⟩
         have ha:=hide_ ha0
         have hylt:=hide_ hlt
         have hyb:y < 9223372036854775807:=by have:=hfew.out;omega
         have e0:=hide_ (show M ++ (ac.take (y + 1)).map (·.m) = (M ++ (ac.take y).map (·.m)) ++ [a.m] from by rw [List.take_add_one,ha0];simp)
         have hmb:=hide_ (show ∀ us:List Value,us.length = (M ++ (ac.take y).map (·.m)).length→((((M ++ (ac.take y).map (·.m)).zip us).map fun x=>mRow x.1.msg x.2).length + 1) * 120≤140737488355328 from fun us hus=>by
          rw [List.length_map,List.length_zip,hus,Nat.min_self,List.length_append,List.length_map,List.length_take]
          exact Nat.le_trans (Nat.mul_le_mul_right 120 (show M.length + min y ac.length + 1≤2013622021 by have h1:=hML.out;have h2:=hfew.out;omega)) (by decide))
         clear hge hlt hy ha0
         go_wp2_with ((first | ((with_reducible refine at_idx ?_);refine w_acidx Tryz.elAct _ _ y rfl rfl rfl rfl hav3.acts (Ext.refl _) ha.out ?_;intro pa2 hrow2;replace hrow2:=hide_ hrow2) | ((with_reducible refine at_load ?_);refine w_ploadN Tryz.stActA _ rfl rfl rfl hrow2.out rfl ?_) | ((with_reducible refine at_alloc ?_);refine w_allocN Tryz.stActA rfl rfl ?_;intro g22 wa2 hga hxa fa) | (refine z2zz ?_;intro wb2 hmb2 f22;have hx:=hmb2.after hxa (fun j e=>e ▸ hga);replace hN3:=hN3.ext hx;replace hE3:=hE3.ext hx;replace hav3:=hav3.ext hx;have hF4:∀ k,F1 k→Z3 k = 0∧k < wb2.heap.size:=fun k hk=>⟨(hF3 k hk).1,Nat.lt_of_lt_of_le (hF3 k hk).2 hx.size⟩;clear hx hxa hmb2 fa hga hF3 hrow2) | ((with_reducible refine at_field ?_);(try refine w_yes _ _ _ rfl rfl rfl ?_);refine w_fieldB (t:=53) (i:=1) (off:=1) (by kernel_rfl) rfl _ _ rfl rfl rfl ?_) | ((with_reducible refine at_load ?_);refine w_loadB Tryz.stMsg _ (mRow a.m.msg (.slice none 0 0)) rfl rfl rfl f22 rfl rfl ?_) | (go_at_call 10;refine (refMCopy_any (d:=a.m.msg) (u := .slice none 0 0) (OwnT.nil 0 _).recs (by show (0:Nat) * 16≤_;omega)).mono ?_;rintro e wf ⟨uc,rfl,cc,hx⟩;have hnt:=hide_ (noTx_of cc);have huc:=hide_ (cc.one');replace hN3:=hN3.ext hx;replace hE3:=hE3.ext hx;replace hav3:=hav3.ext hx;have hF5:∀ k,F1 k→Z3 k = 0∧k < wf.heap.size:=fun k hk=>⟨(hF4 k hk).1,Nat.lt_of_lt_of_le (hF4 k hk).2 hx.size⟩;clear hx cc hF4 f22) | ((with_reducible refine at_lit ?_);refine w_nnew Tryz.elMsgN [mRow a.m.msg uc] rfl rfl rfl (by intro r hr;rw [List.mem_singleton] at hr;subst hr;rfl) rfl (by omega) ?_;intro v227 w6b B2 hB1 hB2 hx hn6;have hs6:=hide_ hn6.slS;replace hN3:=hN3.ext hx;replace hE3:=hE3.ext hx;replace hav3:=hav3.ext hx;have hF6:∀ k,F1 k→Z3 k = 0∧k < w6b.heap.size:=fun k hk=>⟨(hF5 k hk).1,Nat.lt_of_lt_of_le (hF5 k hk).2 hx.size⟩;clear hx hn6 hB1 hB2 hF5) | ((with_reducible refine at_bi ?_);obtain ⟨us,hus,hus2,hsn⟩:=hN3.snt;refine w_napp Tryz.elMsgN _ _ rfl rfl rfl rfl hsn hs6.out (by simp) (by intro r hr u hu;rw [List.mem_singleton] at hr;subst hr;exact m_one huc.out u hu) (hmb.out us hus) ?_;intro v228 w7b hm7 hr7;obtain ⟨Z4b,hN4b,hE4b,hav4,hF7⟩:=hN3.sent hE3 (by simp) hus hus2 hnt.out hm7 hr7 hav3 hF6;clear hN3 hE3 hav3 hF6 hm7 hr7 hsn hus hus2) | fail) <;> (try refine z0z ?_))
         go_roundw
         case rel=>exact ⟨y + 1,Z4b,by go_num,hylt.out,by rw [e0.out];exact hN4b,hE4b,hav4,hF7⟩
         case measure=>have:=hylt.out;simp [RowKit.intOf];omega
    have hlt:k < g.st.length:=by omega
    have t5:decide (k < g.st.length) = true:=decide_eq_true hlt
    have hlt':=hide_ hlt
    have hkb:k < 9223372036854775807:=by have:=hgl6.out;omega
    obtain ⟨pv,hpv⟩:∃ va,va = u8:=⟨_,rfl⟩
    obtain ⟨jv,hjv⟩:∃ va,va = u9:=⟨_,rfl⟩
    rw [← hpv, ← hjv] at hN0
    subst hpv
    subst hjv
    have hpl:=hide_ hpl0
    have hjl:=hide_ hjl0
    have hpb:=hide_ (show ((ps.map fun p=>Value.pointer (some ⟨p,0,none⟩)).length + 1) * 8≤140737488355328 from by rw [List.length_map];have:=hgl6.out;omega)
    clear hge hlt hk hpl0 hjl0
    go_wp2
    refine zmz ?_;intro wd hxd;have F3:=hE0.f3.ext hxd;have J3:=hu.out.ext (hE0.x.trans hxd);have hgs:=hide_ hg.out.st
    refine Ph.gate 0 12 (by kernel_rfl) ?_
    refine LinL.st [(8,none)] rfl (opmv (pv)) ?_
    refine LinL.st [(13,none)] rfl (opmv (.int .i64 (k:Nat))) ?_
    refine z3zz ?_
    refine LinL.st [(70,some 0)] rfl (opld (ug) F3) ?_
    refine LinL.step (s:=(.sl (i64s g.st))) [(69,some 2),(71,some 0)] rfl (by kernel_rfl) (op_clone Tryz.elI 69 71 2 [(71,some 0)] (i64s_one g.st) (by rw [i64s_length];have:=hgl6.out;omega) rfl rfl rfl fun σ w' hx hg=>by rw [hg.2.1];exact J3.ext hx) ?_
    refine z53z ?_
    refine LinL.st [(73,some 0)] rfl (opld (.int .i64 g.base) F3) ?_
    refine z54z ?_
    refine LinL.st [(75,some 0)] rfl (opld (.int .i64 g.most) F3) ?_
    refine LinL.step (s:=(Sp.newc wr k g)) [(68,some 8),(72,some 4),(74,some 2),(76,some 0)] rfl (by kernel_rfl) (op_calls 7 #[(.tmp 68),(.tmp 72),(.tmp 74),(.tmp 76)] #[3,22,3,3] (fun σ => #[.int .i64 (k:Nat),σ.tmps.getD 72 undef, .int .i64 g.base, .int .i64 g.most]) rfl rfl (fun _ _=>rfl) fun σ w' hx hg=>⟨by have h68 : σ.tmps.getD 68 undef = .int .i64 (k:Nat):=hg.1;have h74 : σ.tmps.getD 74 undef = .int .i64 g.base:=hg.2.2.1;have h76 : σ.tmps.getD 76 undef = .int .i64 g.most:=hg.2.2.2.1;simp only [List.map_toArray,List.map_cons,List.map_nil,Act.eval,h68,h74,h76],retN (hxd.trans hx) (New_any (me:=k) (base:=g.base) (most:=g.most) hg.2.1 hgs.out hlt'.out)⟩) ?_
    refine LinL.step (s:=(Sp.newl wr k g)) [(77,some 0)] rfl (by kernel_rfl) (op_newl 77 rfl rfl fun σ w' hx hg=>hg.1) ?_
    intro wN hxN
    simp only [Fin',Sp.empty,Sp.newc,Sp.newl,List.reverse_cons,List.reverse_nil,List.nil_append,List.cons_append,List.drop_zero,List.take_succ_cons,List.take_zero]
    intro q69 hq69 q72 hq72 q77 hq77 q78 hq78
    refine z0z ?_
    refine zgz ?_
    obtain ⟨p,S2,hs,hnc⟩:=hq78
    refine w_rapp Tryz.elPc _ _ rfl rfl rfl rfl (hN0.prow.ext hnc.1) hs (by intro u hu;rw [List.mem_singleton] at hu;subst hu;rfl) hpb.out ?_
    intro v9 w9 hm9 hr9 _
    rw [← List.map_singleton (f:=fun p:Nat=>Value.pointer (some ⟨p,0,none⟩)), ← List.map_append] at hr9
    obtain ⟨Z1,S1,hN1,hE1⟩:=hN0.pushed hE0 (by simp) hpl.out hnc.1 hnc.2.1 hnc.2.2.1 hnc.2.2.2 hm9 hr9
    simp only [Act.put,List.setIfInBounds_toArray]
    show Ph Tryz.prog _ _ 13 _ _
    refine Ph.rest 13 1 (by kernel_rfl) ?_
    refine LinL.st [(79,none)] rfl (opmv (v9)) ?_
    intro wN hxN
    refine z2qz ?_
    simp only [Act.put]
    have hN2:=hN1.ext hxN
    have hE2:=hE1.ext hxN
    have hjb:=hide_ (show (js.length + 1) * 24≤140737488355328 from by have:=hjl.out;have:=hlt'.out;have:=hgl6.out;omega)
    have hpl2:=hide_ (show (ps ++ [p]).length = k + 1 from by rw [List.length_append,hpl.out];rfl)
    clear hnc hs hr9 hm9 hN1 hE1 hxd hxN F3 J3 hN0 hE0 hgs
    go_wp2_with ((first | (refine z5sz ?_;intro v81 w6 B hB1 hB2 hx6 hn6;have hone:=hide_ (slS_one hn6.slS)) | ((with_reducible refine at_lit ?_);refine w_new Tryz.elRs [v81] rfl rfl rfl (one1 (oneCell_cells hone.out)) rfl (by omega) ?_;intro v82 w7 hx7 o82;have hv:=(hn6.ext hx7).tight.mono (G:=fun k=>wN.heap.size≤k∧k < w7.heap.size) (fun q hq=>⟨Nat.le_trans hB1 hq.1.1,hq.2⟩)) | ((with_reducible refine at_bi ?_);refine w_rapp Tryz.elRs _ _ rfl rfl rfl rfl (hN2.jrow.ext (hx6.trans hx7)) (Sl.of_own o82) (by intro y hy;rw [List.mem_singleton] at hy;subst hy;exact hone.out) hjb.out ?_;intro v83 w8 hm8 hr8 _;obtain ⟨Z3,hN3,hE3⟩:=hN2.pushedJ hE2 (by simp) hjl.out (hx6.trans hx7) hv rfl hm8 hr8;clear hN2 hE2 hv hn6 hB1 hB2 hx6 hx7 o82 hm8 hr8 hone) | fail) <;> (try refine z0z ?_))
    go_roundw
    case rel=>exact ⟨k + 1,Z3,_,_,_,by go_num,hlt'.out,hpl2.out,by rw [List.length_append,hjl.out];rfl,hN3,hE3⟩
    case measure=>have:=hlt'.out;simp [RowKit.intOf];omega
  have hlt:k < bl.length:=by omega
  have t2:decide (k < bl.length) = true:=decide_eq_true hlt
  obtain ⟨b,hb0⟩:∃ b,bl[k] = b:=⟨_,rfl⟩
  have hlt':=hide_ hlt
  have hb:=hide_ (show bl[k]'(hlt'.out) = b from hb0)
  have hkb:k < 9223372036854775807:=by have:=hb8.out;omega
  have e0:bl.take (k + 1) = bl.take k ++ [b]:=by rw [List.take_add_one,List.getElem?_eq_getElem hlt,hb0];rfl
  by_cases c1:0≤b
  rotate_left
  ·have t3:decide (0≤b) = false:=decide_eq_false c1
   have e1:=hide_ (show wrg (bl.take (k + 1)) = wrg (bl.take k) from by rw [e0];exact wrg_off fun q=>c1 q.1)
   clear hge hlt hb0 e0 c1
   go_wp2_with ((first | (refine z5vz ?_;intro ad had;rw [hb.out] at had) | fail) <;> (try refine z0z ?_))
   go_roundw
   case rel=>exact ⟨k + 1,by go_num,hlt'.out,hm,by rw [e1.out];exact f10⟩
   case measure=>have:=hlt'.out;simp [RowKit.intOf];omega
  have t3:decide (0≤b) = true:=decide_eq_true c1
  by_cases c2:b < 7
  rotate_left
  ·have t4:decide (b < 7) = false:=decide_eq_false c2
   have e1:=hide_ (show wrg (bl.take (k + 1)) = wrg (bl.take k) from by rw [e0];exact wrg_off fun q=>c2 q.2)
   clear hge hlt hb0 e0 c1 c2
   go_wp2_with ((first | (refine z5vz ?_;intro ad had;rw [hb.out] at had) | fail) <;> (try refine z0z ?_))
   go_roundw
   case rel=>exact ⟨k + 1,by go_num,hlt'.out,hm,by rw [e1.out];exact f10⟩
   case measure=>have:=hlt'.out;simp [RowKit.intOf];omega
  have t4:decide (b < 7) = true:=decide_eq_true c2
  obtain ⟨n,hn0⟩:∃ n:Nat,b = (n:Int):=⟨b.toNat,by omega⟩
  have hn:=hide_ hn0
  have hn7:=hide_ (show n < 7 by omega)
  have e1:=hide_ (show wrg (bl.take (k + 1)) = (wrg (bl.take k)).set n (.bool true) from by rw [e0,hn0];exact wrg_set hn7.out)
  clear hge hlt hb0 e0 c1 c2 hn0
  go_wp2_with ((first | (refine z5vz ?_;intro ad had;rw [hb.out] at had) | ((with_reducible refine at_idx ?_);refine w_aidxM (off:=0) (m:=1) (i:=n) (c:=n) Tryz.underlying31 (by kernel_rfl) (by omega) _ _ rfl rfl rfl (by rw [hn.out];rfl) hn7.out ?_) | ((with_reducible refine at_store ?_);refine w_fstore _ _ (u := .bool true) rfl rfl rfl rfl rfl f10 (by rw [wrg_len];exact hn7.out) rfl rfl (by kernel_rfl) ?_;intro w9 hm9 f9) | fail) <;> (try refine z0z ?_))
  go_roundw
  case rel=>exact ⟨k + 1,by go_num,hlt'.out,hm.trans hm9 (fun _ _ h=>h),by rw [e1.out];exact f9⟩
  case measure=>have:=hlt'.out;simp [RowKit.intOf];omega
end Go.Proofs.YtdoeoncmhaihbaaGreat
