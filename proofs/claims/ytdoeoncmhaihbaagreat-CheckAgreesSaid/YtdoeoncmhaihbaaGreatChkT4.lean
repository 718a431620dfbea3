/- A step in which nothing came is given up; what is said again. -/
import Derived.Test.YtdoeoncmhaihbaaGreatPk13
namespace Go.Proofs.YtdoeoncmhaihbaaGreat
set_option maxHeartbeats 3200000
set_option maxRecDepth 100000
open Go.RowKit
def CoD.gu (c:CoD):CoD:=if c.step = 1 then (c.cast 4 (-1)).to 2 else if c.step = 2 then (c.cast 5 (-1)).to 3 else if c.view < 1000 then c.enter (c.view + 1) else c.to 3
theorem cast_view (c:CoD) (k x:Int):(c.cast k x).view = c.view:=by unfold CoD.cast;split <;> rfl
theorem enter_wait (c:CoD) (v:Int) : { c.enter v with left:=pat (c.enter v).view (c.enter v).base (c.enter v).most } = c.enter v:=by
 unfold CoD.enter
 simp only
 split <;> rfl
theorem enter_view (c:CoD) (v:Int):(c.enter v).view = v:=by
 unfold CoD.enter
 simp only
 split <;> rfl
theorem giveUp_turn {S:Nat→Nat} {w:World} {tb p q gp gs:Nat} {kv ov sv dv:Value} {kn:List Int} {c:CoD} (h:TrnW S w tb p kv ov sv dv q gp gs kn c) (hst:1≤c.step∧c.step≤3) (hv0:0≤c.view∧c.view≤1000) (hvw0 : -1≤c.vw) (hlen0:(c.out.length + 1) * 128≤140737488355328) :
  Calls Tryz.prog 33 #[.pointer (some ⟨tb,0,none⟩)] w fun e w'=>e = .returned (.tuple #[])∧∃ S',Trn S' w' tb p kv kn c.gu∧Stp 1 8 S S' w w':=by
 refine z2rz ?_
 have hT:=hide_ h
 have hlen:=hide_ hlen0
 have hv64:=hide_ (show In64 c.view from by unfold In64;omega)
 have hm1:=hide_ (show In64 (-1) from by unfold In64;omega)
 have hvw:=hide_ hvw0
 by_cases h1:c.step = 1
 ·have s1:(c.step == 1) = true:=by simp [h1]
  obtain ⟨d,hd0⟩:∃ d,c.cast 4 (-1) = d:=⟨_,rfl⟩
  have hd:=hide_ hd0
  have hfin:=hide_ (show c.gu = d.to 2 from by unfold CoD.gu;rw [if_pos h1,hd0])
  have hvI:=hide_ (show d.view≤9223372036854775807 from by rw [← hd0,cast_view];omega)
  clear h hst hv0 hvw0 hlen0 h1 hd0
  go_enter Tryz.func33,Tryz.ntmps33
  go_wp2_with ((first | (go_at_call 53;refine (cast_turn (k:=4) (x := -1) hT.out (by omega) hv64.out hm1.out hlen.out).mono ?_;rintro e w2 ⟨rfl,S2,ov2,hT2,hs2⟩;rw [hd.out] at hT2;replace hT2:=hide_ hT2;clear hd) | ((with_reducible refine at_store ?_);refine w_fstore _ _ (u := .int .i64 2) rfl rfl rfl rfl rfl hT2.out.cor.obj (by simp [coRow]) rfl rfl (by kernel_rfl) ?_;intro w3 hm3 f3;have hC3:=hT2.out.cor.cell (d:={ d with step:=2 }) hm3 f3 ⟨rfl,rfl,rfl,rfl,rfl,rfl⟩ hT2.out.cor.lft;have hs3:=hT2.out.cor.stpCell hm3;have hT3:=hide_ (hT2.out.core hs3 hC3 rfl);clear f3) | (go_at_call 38;refine (wait_core hT3.out.cor hvI.out).mono ?_;rintro e w8 ⟨rfl,hC8,hs8⟩) | refine z5iz ?_ | refine z41z ?_ | fail) <;> (try refine z0z ?_))
  go_end0
  exact z5wz
 have s1:(c.step == 1) = false:=by simp [h1]
 by_cases h2:c.step = 2
 ·have s2:(c.step == 2) = true:=by simp [h2]
  obtain ⟨d,hd0⟩:∃ d,c.cast 5 (-1) = d:=⟨_,rfl⟩
  have hd:=hide_ hd0
  have hfin:=hide_ (show c.gu = d.to 3 from by unfold CoD.gu;rw [if_neg h1,if_pos h2,hd0])
  have hvI:=hide_ (show d.view≤9223372036854775807 from by rw [← hd0,cast_view];omega)
  clear h hst hv0 hvw0 hlen0 h1 h2 hd0
  go_enter Tryz.func33,Tryz.ntmps33
  go_wp2_with ((first | (go_at_call 53;refine (cast_turn (k:=5) (x := -1) hT.out (by omega) hv64.out hm1.out hlen.out).mono ?_;rintro e w2 ⟨rfl,S2,ov2,hT2,hs2⟩;rw [hd.out] at hT2;replace hT2:=hide_ hT2;clear hd) | ((with_reducible refine at_store ?_);refine w_fstore _ _ (u := .int .i64 3) rfl rfl rfl rfl rfl hT2.out.cor.obj (by simp [coRow]) rfl rfl (by kernel_rfl) ?_;intro w3 hm3 f3;have hC3:=hT2.out.cor.cell (d:={ d with step:=3 }) hm3 f3 ⟨rfl,rfl,rfl,rfl,rfl,rfl⟩ hT2.out.cor.lft;have hs3:=hT2.out.cor.stpCell hm3;have hT3:=hide_ (hT2.out.core hs3 hC3 rfl);clear f3) | (go_at_call 38;refine (wait_core hT3.out.cor hvI.out).mono ?_;rintro e w8 ⟨rfl,hC8,hs8⟩) | refine z5iz ?_ | refine z41z ?_ | fail) <;> (try refine z0z ?_))
  go_end0
  exact z5wz
 have s2:(c.step == 2) = false:=by simp [h2]
 have s3:(c.step == 3) = true:=by simp;omega
 by_cases h3:c.view < 1000
 ·have t3:decide (c.view < 1000) = true:=decide_eq_true h3
  have hb1:0≤c.view:=hv0.1
  have hb2:c.view≤1000:=hv0.2
  have hvr:=hide_ (show 0≤c.view + 1∧c.view + 1≤1000 from by omega)
  have hfin:=hide_ (show c.gu = c.enter (c.view + 1) from by unfold CoD.gu;rw [if_neg h1,if_neg h2,if_pos h3])
  have hvI:=hide_ (show (c.enter (c.view + 1)).view≤9223372036854775807 from by rw [enter_view];omega)
  clear h hst hv0 hvw0 hlen0 h1 h2 h3
  go_enter Tryz.func33,Tryz.ntmps33
  go_wp2_with ((first | (go_at_call 31;refine (enter_turn hT.out hvr.out hvw.out hlen.out).mono ?_;rintro e w2 ⟨rfl,S2,ov2,hT2,hs2⟩;replace hT2:=hide_ hT2) | (go_at_call 38;refine (wait_core hT2.out.cor hvI.out).mono ?_;rintro e w8 ⟨rfl,hC8,hs8⟩) | refine z1qz ?_ | refine zhz ?_ | ((with_reducible refine at_load ?_);(try refine w_yes _ _ _ rfl rfl rfl ?_);refine w_fload _ rfl rfl rfl hT2.out.turn rfl (agg_of (by kernel_rfl)) ?_) | refine z1nz ?_ | fail) <;> (try refine z0z ?_))
  go_end0
  exact Keep.intro ⟨rfl,S2,⟨_,_,_,_,_,_,by rw [hfin.out];exact (enter_wait c (c.view + 1)) ▸ hT2.out.core hs8 hC8 rfl⟩,hs2.trans (hs8.wide (by omega) (by omega))⟩
 ·have t3:decide (c.view < 1000) = false:=decide_eq_false h3
  have hfin:=hide_ (show c.gu = { c with left:=pat c.view c.base c.most } from by
   unfold CoD.gu;rw [if_neg h1,if_neg h2,if_neg h3];unfold CoD.to;rw [show c.step = 3 from by omega])
  have hvI:=hide_ (show c.view≤9223372036854775807 from by omega)
  clear h hst hv0 hvw0 hlen0 h1 h2 h3
  go_enter Tryz.func33,Tryz.ntmps33
  go_wp2_with ((first | (go_at_call 38;refine (wait_core hT.out.cor hvI.out).mono ?_;rintro e w8 ⟨rfl,hC8,hs8⟩) | refine z1qz ?_ | refine zhz ?_ | refine z1nz ?_ | fail) <;> (try refine z0z ?_))
  go_end0
  exact Keep.intro ⟨rfl,S,⟨_,_,_,_,_,_,by rw [hfin.out];exact hT.out.core hs8 hC8 rfl⟩,hs8.wide (by omega) (by omega)⟩
def CoD.ov (c:CoD) (k:Int):CoD:=match c.T k c.view c.me with
 | some x=>c.once (c.vote k x)
 | none=>c
def CoD.op (c:CoD):CoD:=match c.prop c.view with
 | some p=>if c.leader c.view = c.me then c.once (c.offer c.view p) else c
 | none=>c
def CoD.ck (c:CoD):Nat→CoD
 | 0=>c
 | n + 1=>(CoD.ck c n).ov (4 + (n:Int))
theorem ck_succ (c:CoD) (n:Nat):c.ck (n + 1) = (c.ck n).ov (4 + (n:Int)):=rfl
theorem once_fine (c:CoD) (m:MsV):(c.once m).view = c.view∧(c.once m).me = c.me∧(c.once m).out.length≤c.out.length + 1:=by
 unfold CoD.once
 split
 ·exact ⟨rfl,rfl,by omega⟩
 ·exact ⟨rfl,rfl,by unfold CoD.send;simp⟩
theorem ov_fine (c:CoD) (k:Int):(c.ov k).view = c.view∧(c.ov k).me = c.me∧(c.ov k).out.length≤c.out.length + 1:=by
 unfold CoD.ov
 split
 ·exact once_fine c _
 ·exact ⟨rfl,rfl,by omega⟩
theorem op_fine (c:CoD):c.op.view = c.view∧c.op.me = c.me∧c.op.out.length≤c.out.length + 1:=by
 unfold CoD.op
 split
 ·split
  ·exact once_fine c _
  ·exact ⟨rfl,rfl,by omega⟩
 ·exact ⟨rfl,rfl,by omega⟩
theorem ck_fine {c e:CoD} (h:e.view = c.view∧e.me = c.me∧e.out.length≤c.out.length + 1):∀ n,(e.ck n).view = c.view∧(e.ck n).me = c.me∧(e.ck n).out.length≤c.out.length + 1 + n
 | 0=>⟨h.1,h.2.1,h.2.2⟩
 | n + 1=>by
  obtain ⟨h1,h2,h3⟩:=ck_fine h n
  obtain ⟨h4,h5,h6⟩:=ov_fine (e.ck n) (4 + (n:Int))
  rw [ck_succ]
  exact ⟨h4.trans h1,h5.trans h2,by omega⟩
theorem once_all (c:CoD):∀ (L:List MsV),L.Nodup→L.foldl CoD.once c = { c with out:=c.out ++ (L.filter fun m => !(c.out.any fun a=>decide (a.m = m))).map fun m=>⟨-1,m⟩ }
 | [],_=>by simp
 | m :: L,h=>by
  obtain ⟨h1,h2⟩:=List.nodup_cons.1 h
  rw [List.foldl_cons,once_all _ L h2]
  unfold CoD.once
  by_cases hq:(c.out.any fun a=>decide (a.m = m)) = true
  ·rw [if_pos hq,List.filter_cons_of_neg (by rw [hq];decide)]
  ·rw [if_neg hq,List.filter_cons_of_pos (by simpa using hq)]
   unfold CoD.send
   simp only [List.map_cons,List.append_assoc,List.cons_append,List.nil_append,CoD.mk.injEq,true_and]
   congr 2
   congr 1
   refine List.filter_congr fun x hx => ?_
   rw [List.any_append]
   have:(([⟨-1,m⟩]:List AcV).any fun a=>decide (a.m = x)) = false:=by
    simp only [List.any_cons,List.any_nil,Bool.or_false,decide_eq_false_iff_not]
    intro e;exact h1 (e ▸ hx)
   rw [this,Bool.or_false]
theorem vote_once (c:CoD) (k x:Int) (m:MsV):(c.once m).vote k x = c.vote k x:=by unfold CoD.once;split <;> rfl
theorem resend_eq (c:CoD) (h:c.step≠0):c.resend = c.op.ck 2:=by
 have hT:∀ m,(c.once m).T = c.T∧(c.once m).view = c.view∧(c.once m).me = c.me:=fun m=>by unfold CoD.once;split <;> exact ⟨rfl,rfl,rfl⟩
 have key:∀ e:CoD,e.T = c.T→e.view = c.view→e.me = c.me→(∀ k x,e.vote k x = c.vote k x)→∀ k,e.ov k = (match c.T k c.view c.me with | some x => [c.vote k x] | none=>([]:List MsV)).foldl CoD.once e:=fun e h1 h2 h3 h4 k=>by
  unfold CoD.ov
  rw [h1,h2,h3]
  cases c.T k c.view c.me with
  | none=>rfl
  | some x=>simp only [List.foldl_cons,List.foldl_nil];rw [h4]
 have hfold:∀ (L:List MsV) (e:CoD),e.T = c.T∧e.view = c.view∧e.me = c.me∧(∀ k x,e.vote k x = c.vote k x)→(L.foldl CoD.once e).T = c.T∧(L.foldl CoD.once e).view = c.view∧(L.foldl CoD.once e).me = c.me∧(∀ k x,(L.foldl CoD.once e).vote k x = c.vote k x):=fun L=>by
  induction L with
  | nil=>exact fun e h=>h
  | cons m L ih =>
   intro e he
   rw [List.foldl_cons]
   refine ih _ ⟨?_, ?_, ?_,fun k x=>(vote_once e k x m).trans (he.2.2.2 k x)⟩
   ·have:(e.once m).T = e.T:=by unfold CoD.once;split <;> rfl
    exact this.trans he.1
   ·exact (once_fine e m).1.trans he.2.1
   ·exact (once_fine e m).2.1.trans he.2.2.1
 have hop:c.op = (match c.prop c.view with | some p=>if c.leader c.view = c.me then [c.offer c.view p] else [] | none=>([]:List MsV)).foldl CoD.once c:=by
  unfold CoD.op
  cases c.prop c.view with
  | none=>rfl
  | some p =>
   simp only
   split <;> rfl
 have h0:=hfold (match c.prop c.view with | some p=>if c.leader c.view = c.me then [c.offer c.view p] else [] | none=>([]:List MsV)) c ⟨rfl,rfl,rfl,fun _ _=>rfl⟩
 rw [← hop] at h0
 have e1:=key c.op h0.1 h0.2.1 h0.2.2.1 h0.2.2.2 4
 have h1:=hfold (match c.T 4 c.view c.me with | some x => [c.vote 4 x] | none=>([]:List MsV)) c.op h0
 rw [← e1] at h1
 have e2:=key (c.op.ov 4) h1.1 h1.2.1 h1.2.2.1 h1.2.2.2 5
 show _ = (c.op.ov (4 + ((0:Nat):Int))).ov (4 + ((1:Nat):Int))
 rw [show (4 + ((0:Nat):Int)) = 4 from rfl,show (4 + ((1:Nat):Int)) = 5 from rfl,e2,e1,hop, ← List.foldl_append, ← List.foldl_append,once_all]
 ·unfold CoD.resend
  rw [if_neg h]
  simp only [CoD.again,List.append_assoc]
  rfl
 ·have hkd:∀ p,(c.offer c.view p).kd = 3:=fun _=>rfl
  have hk4:∀ k x,(c.vote k x).kd = k:=fun _ _=>rfl
  have ne:∀ {a b:MsV},a.kd≠b.kd→a≠b:=fun h e=>h (by rw [e])
  cases c.prop c.view with
  | none =>
   cases c.T 4 c.view c.me <;> cases c.T 5 c.view c.me <;> simp [CoD.vote,MsV.eq_iff]
  | some p =>
   by_cases hl:c.leader c.view = c.me
   ·simp only [if_pos hl]
    cases c.T 4 c.view c.me <;> cases c.T 5 c.view c.me <;> simp [CoD.vote,CoD.offer,MsV.eq_iff]
   ·simp only [if_neg hl]
    cases c.T 4 c.view c.me <;> cases c.T 5 c.view c.me <;> simp [CoD.vote,MsV.eq_iff]
theorem w_2build {ops:Array Oper} {rest:List Oper} {o:Oper} {a:Act} {Q:Exit→Act→World→Prop} {w:World} {ps:Array (Nat × Operand)} (us:List Value) (hgd:o.guard = none) (ho:o.op = .build 101 ps)
  (hps:((ps.toList.map fun x=>(x.1,a.eval x.2)).foldl (fun acc p=>acc.set p.1 p.2) [.int .i64 0, .int .i64 0]) = us) (hone:∀ p∈ps.toList,p.1 < 2∧(a.eval p.2).cells = #[a.eval p.2])
  (k:wpList Tryz.prog ops Q rest (a.put o.dst (.agg us.toArray)) w):wpList Tryz.prog ops Q (o :: rest) a w:=by
 refine wpList_runs hgd ?_ k
 have hfill:=fill_st (ps.toList.map fun x=>(x.1,a.eval x.2)) [.int .i64 0, .int .i64 0] (fun i=>some (i * 1,1)) fun p hp=>by
  obtain ⟨q,hq,rfl⟩:=List.mem_map.1 hp
  obtain ⟨h1,h2⟩:=hone q hq
  exact ⟨by simp,h1,h2⟩
 rw [hps] at hfill
 have hpl:(ps.map fun x=>(x.1,a.eval x.2)).toList = ps.toList.map fun x=>(x.1,a.eval x.2):=by simp
 unfold Runs execOp
 rw [ho]
 show ((do pure (.value (← Instr.build 101 (ps.map fun x=>(x.1,a.eval x.2)))):Sem Next)).run Tryz.prog w = _
 have hzv:(zeroValue 101).run Tryz.prog w = .ok (.agg [Value.int .i64 0, .int .i64 0].toArray) w:=by kernel_rfl
 have hb:(Instr.build 101 (ps.map fun x=>(x.1,a.eval x.2))).run Tryz.prog w = .ok (.agg us.toArray) w:=by
  unfold Instr.build
  rw [Sem.run_bind,hzv,Result.andThen_ok]
  dsimp only
  rw [Sem.run_bind,run_underlying Tryz.underlying101,Result.andThen_ok]
  simp only [Sem.run_bind,Tryz.sizeOf3,Result.andThen_ok,Value.cells,hpl]
  rw [hfill]
  rfl
 rw [Sem.run_bind,hb]
 rfl
theorem votC {X:Nat→Prop} {w:World} {p:Nat} {t:List Int} {T:Tab} {N:Nat} {k v:Int} {j:Nat} (h0:Tal X w p t T N) (hk:In64 k) (hv:In64 v) (hj:In64 (j:Int)) {x:Int} {o:Bool} (hr:(T k v j).getD 0 = x∧(T k v j).isSome = o) :
  Calls Tryz.prog 37 #[.pointer (some ⟨p,0,none⟩), .int .i64 k, .int .i64 v, .int .i64 (j:Nat)] w fun e w'=>e = .returned (.tuple #[.int .i64 x, .bool o])∧Ext w w':=by
 refine (TVote_any h0 hk hv hj (fat_nat _ _)).mono ?_
 rintro e w' ⟨rfl,rfl⟩
 rw [hr.1,hr.2]
 exact ⟨rfl,Ext.refl _⟩
theorem repeat_turn {S:Nat→Nat} {w:World} {tb p q gp gs:Nat} {kv ov sv dv:Value} {kn:List Int} {c:CoD} (h:TrnW S w tb p kv ov sv dv q gp gs kn c) (hv0:0≤c.view∧c.view≤1000) (hlen0:(c.out.length + 3) * 128≤140737488355328) :
  Calls Tryz.prog 34 #[.pointer (some ⟨tb,0,none⟩)] w fun e w'=>e = .returned (.tuple #[])∧∃ S',Trn S' w' tb p kv kn c.resend∧Stp 1 8 S S' w w':=by
 refine z2rz ?_
 have hT:=hide_ h
 have hlen:=hide_ hlen0
 have hlen1:=hide_ (show (c.out.length + 1) * 128≤140737488355328 from by omega)
 have hv64:=hide_ (show In64 c.view from by unfold In64;omega)
 have hme0:=hide_ (show c.me≤1000000 from by have:=h.cor.me;have:=h.cor.st.2.1;omega)
 by_cases hs:c.step = 0
 ·have t1:(c.step == 0) = true:=by simp [hs]
  have hfin:=hide_ (show c.resend = c from by unfold CoD.resend;rw [if_pos hs])
  clear h hv0 hlen0 hs
  go_enter Tryz.func34,Tryz.ntmps34
  go_wp2_with ((first | refine z5iz ?_ | refine z1nz ?_ | fail) <;> (try refine z0z ?_))
  go_end0
  exact Keep.intro ⟨rfl,S,⟨_,_,_,_,_,_,by rw [hfin.out];exact hT.out⟩,Stp.refl hT.out.bnd⟩
 have t1:(c.step == 0) = false:=by simp [hs]
 obtain ⟨e,he0⟩:∃ e,c.op = e:=⟨_,rfl⟩
 have hfin:=hide_ (show c.resend = CoD.ck e 2 from by rw [← he0];exact resend_eq c hs)
 have hef:=hide_ (show e.view = c.view∧e.me = c.me∧e.out.length≤c.out.length + 1 from by rw [← he0];exact op_fine c)
 obtain ⟨n,D,_,hpo0,hpm0⟩:=h.cor.prp
 have hpo:=hide_ hpo0
 have hpm:=hide_ hpm0
 obtain ⟨l,hl0⟩:∃ l,c.leader c.view = l:=⟨_,rfl⟩
 have hld:=hide_ hl0
 cases hpp:c.prop c.view with
 | none =>
  obtain ⟨rx,hrx⟩:∃ r:Int,r = 0:=⟨_,rfl⟩
  obtain ⟨ru,hru⟩:∃ r:Int,r = 0:=⟨_,rfl⟩
  obtain ⟨ok,hok⟩:∃ b,b = false:=⟨_,rfl⟩
  have hpr:=hide_ (show (c.prop c.view).getD (0,0) = (rx,ru)∧(c.prop c.view).isSome = ok from by rw [hpp,hrx,hru,hok];exact ⟨rfl,rfl⟩)
  have hoff:=hide_ (show c = e from by rw [← he0];unfold CoD.op;rw [hpp])
  have hok':=hide_ hok
  clear h hv0 hlen0 hs he0 hpo0 hpm0 hl0 hpp hrx hru hok
  go_enter Tryz.func34,Tryz.ntmps34
  go_wp2_with ((first | refine z5iz ?_ | refine z1nz ?_ | fail) <;> (try refine z0z ?_))
  refine wp_region_val [0,1,2,3,4,5,6,7,8,9,10,11,12,13,14,15,16,17,18,19,20,22] (fun i=>([18,19,20,21,22,23,24,25,26,27,28,29,30,31,32,33,34,17,35,36,2,0,3]:List Nat).getD i 0) (fun i x=>x = ([(.pointer (some ⟨tb,0,none⟩)),(.pointer (some ⟨tb,0,none⟩)),(.pointer (some ⟨tb,0,none⟩)),(.pointer (some ⟨p,0,none⟩)),(.pointer (some ⟨p,0,none⟩)),(.pointer (some ⟨p,6,none⟩)),(.pointer (some ⟨p,10,none⟩)),(.map (some gp)),(.pointer (some ⟨tb,0,none⟩)),(.pointer (some ⟨tb,0,none⟩)),(.pointer (some ⟨tb,0,none⟩)),(.pointer (some ⟨p,0,none⟩)),(.pointer (some ⟨p,0,none⟩)),(.pointer (some ⟨p,6,none⟩)),(.pointer (some ⟨p,6,none⟩)),(.int .i64 c.view),(.tuple #[.agg #[.int .i64 rx, .int .i64 ru], .bool ok]),(.tuple #[.agg #[.int .i64 rx, .int .i64 ru], .bool ok]),(.agg #[.int .i64 rx, .int .i64 ru]),(.bool ok),undef,undef,(.bool ok)]:List Value).getD i undef) 20 21 [.int .i64 0, .int .i64 0] (fun cs=>cs = [.int .i64 rx, .int .i64 ru]) (by kernel_rfl) (by kernel_rfl) (by kernel_rfl) (by decide) (by decide) (by kernel_rfl) (by intro i hi;show _ < 104;revert i;decide) (by kernel_rfl) (by decide) (by kernel_rfl) ?_ ?_ ?_ ?_
  ·intro i hi ha b w' hx hout hdep
   rcases (show i = 0∨i = 1∨i = 2∨i = 3∨i = 4∨i = 5∨i = 6∨i = 7∨i = 8∨i = 9∨i = 10∨i = 11∨i = 12∨i = 13∨i = 14∨i = 15∨i = 16∨i = 17∨i = 18∨i = 19∨i = 22 by simp at hi;omega) with rfl|rfl|rfl|rfl|rfl|rfl|rfl|rfl|rfl|rfl|rfl|rfl|rfl|rfl|rfl|rfl|rfl|rfl|rfl|rfl|rfl
   ·have e0:b.tmps.getD 0 undef = .pointer (some ⟨tb,0,none⟩):=hout 0 (by decide)
    exact z6tz
   ·have e18:b.tmps.getD 18 undef = .pointer (some ⟨tb,0,none⟩):=hdep 0 (by decide) (by decide) (by kernel_rfl)
    refine zgz ?_
    refine w_nilC _ rfl rfl e18 ?_
    exact zaz
   ·have e19:b.tmps.getD 19 undef = .pointer (some ⟨tb,0,none⟩):=hdep 1 (by decide) (by decide) (by kernel_rfl)
    refine zgz ?_
    refine z66z ?_
    exact zaz
   ·have e20:b.tmps.getD 20 undef = .pointer (some ⟨tb,0,none⟩):=hdep 2 (by decide) (by decide) (by kernel_rfl)
    refine zgz ?_
    refine z6lz ?_
    exact zaz
   ·have e21:b.tmps.getD 21 undef = .pointer (some ⟨p,0,none⟩):=hdep 3 (by decide) (by decide) (by kernel_rfl)
    refine zgz ?_
    refine w_nilC _ rfl rfl e21 ?_
    exact zaz
   ·have e22:b.tmps.getD 22 undef = .pointer (some ⟨p,0,none⟩):=hdep 4 (by decide) (by decide) (by kernel_rfl)
    refine zgz ?_
    refine z6dz ?_
    exact zaz
   ·have e23:b.tmps.getD 23 undef = .pointer (some ⟨p,6,none⟩):=hdep 5 (by decide) (by decide) (by kernel_rfl)
    refine zgz ?_
    refine z67z ?_
    exact zaz
   ·have e24:b.tmps.getD 24 undef = .pointer (some ⟨p,10,none⟩):=hdep 6 (by decide) (by decide) (by kernel_rfl)
    refine zgz ?_
    refine z68z ?_
    exact zaz
   ·have e0:b.tmps.getD 0 undef = .pointer (some ⟨tb,0,none⟩):=hout 0 (by decide)
    exact z6tz
   ·have e26:b.tmps.getD 26 undef = .pointer (some ⟨tb,0,none⟩):=hdep 8 (by decide) (by decide) (by kernel_rfl)
    refine zgz ?_
    refine w_nilC _ rfl rfl e26 ?_
    exact zaz
   ·have e27:b.tmps.getD 27 undef = .pointer (some ⟨tb,0,none⟩):=hdep 9 (by decide) (by decide) (by kernel_rfl)
    refine zgz ?_
    refine z69z ?_
    exact zaz
   ·have e28:b.tmps.getD 28 undef = .pointer (some ⟨tb,0,none⟩):=hdep 10 (by decide) (by decide) (by kernel_rfl)
    refine zgz ?_
    refine z6mz ?_
    exact zaz
   ·have e29:b.tmps.getD 29 undef = .pointer (some ⟨p,0,none⟩):=hdep 11 (by decide) (by decide) (by kernel_rfl)
    refine zgz ?_
    refine w_nilC _ rfl rfl e29 ?_
    exact zaz
   ·have e30:b.tmps.getD 30 undef = .pointer (some ⟨p,0,none⟩):=hdep 12 (by decide) (by decide) (by kernel_rfl)
    refine zgz ?_
    refine z6ez ?_
    exact zaz
   ·have e31:b.tmps.getD 31 undef = .pointer (some ⟨p,6,none⟩):=hdep 13 (by decide) (by decide) (by kernel_rfl)
    refine zgz ?_
    refine z6fz ?_
    exact zaz
   ·have e32:b.tmps.getD 32 undef = .pointer (some ⟨p,6,none⟩):=hdep 14 (by decide) (by decide) (by kernel_rfl)
    refine zgz ?_
    refine z6az ?_
    exact zaz
   ·have e25:b.tmps.getD 25 undef = .map (some gp):=hdep 7 (by decide) (by decide) (by kernel_rfl)
    have e33:b.tmps.getD 33 undef = .int .i64 c.view:=hdep 15 (by decide) (by decide) (by kernel_rfl)
    refine zgz ?_
    refine z5rz ?_
    exact zaz
   ·have e34:b.tmps.getD 34 undef = .tuple #[.agg #[.int .i64 rx, .int .i64 ru], .bool ok]:=hdep 16 (by decide) (by decide) (by kernel_rfl)
    exact z7jz
   ·have e17:b.tmps.getD 17 undef = .tuple #[.agg #[.int .i64 rx, .int .i64 ru], .bool ok]:=hdep 17 (by decide) (by decide) (by kernel_rfl)
    exact z7ez
   ·have e17:b.tmps.getD 17 undef = .tuple #[.agg #[.int .i64 rx, .int .i64 ru], .bool ok]:=hdep 17 (by decide) (by decide) (by kernel_rfl)
    exact z7ez
   ·have e36:b.tmps.getD 36 undef = .bool ok:=hdep 19 (by decide) (by decide) (by kernel_rfl)
    exact z7kz
  ·intro b w'
   refine z6uz ?_
   intro g w2 hg hx f
   exact z5gz
  ·intro b w' g hx e2 f hdep
   have e35:b.tmps.getD 35 undef = .agg #[.int .i64 rx, .int .i64 ru]:=hdep 18 (by decide) (by decide) (by kernel_rfl)
   refine zgz ?_
   refine w_astoreN Tryz.stPrep (.tmp 2) (.tmp 35) (us:=[.int .i64 rx, .int .i64 ru]) rfl rfl rfl e2 e35 f rfl rfl (by intro u hu;simp at hu;rcases hu with rfl|rfl <;> rfl) ?_
   intro w2 hm f2
   exact z4uz
  intro w8 x hx8 hv hc
  obtain ⟨g2,cs,eal,hg8,f2,rfl⟩:=hc
  have ek22:x 22 = .bool ok:=hv 22 (by decide) (by decide)
  simp only [List.foldl_cons,List.foldl_nil,eal,ek22]
  generalize x 0 = x100
  generalize x 1 = x101
  generalize x 2 = x102
  generalize x 3 = x103
  generalize x 4 = x104
  generalize x 5 = x105
  generalize x 6 = x106
  generalize x 7 = x107
  generalize x 8 = x108
  generalize x 9 = x109
  generalize x 10 = x110
  generalize x 11 = x111
  generalize x 12 = x112
  generalize x 13 = x113
  generalize x 14 = x114
  generalize x 15 = x115
  generalize x 16 = x116
  generalize x 17 = x117
  generalize x 18 = x118
  generalize x 19 = x119
  refine z1cz ?_
  clear hv eal ek22
  have hX:=hx8;rw [hok'.out]
  go_wp2
  refine zmz ?_;intro wd hxd;have HT:=hT.out.ext (hX.trans hxd);have FT:=HT.turn;have F0:=HT.cor.obj
  refine Ph.rest 0 24 (by kernel_rfl) ?_
  refine LinL.st [(3,none)] rfl (opmv (.bool false)) ?_
  refine LinL.st [(37,some 0)] rfl (opcp (.val (.bool false))) ?_
  refine LinL.step (s := .val undef) [(0,none),(38,some 0)] rfl (by kernel_rfl) (op_no (reads:=[(0,none)]) 1 38 0 true rfl rfl rfl) ?_
  refine LinL.step (s := .val undef) [(39,some 0),(38,some 1)] rfl (by kernel_rfl) (op_no (reads:=[(39,some 0)]) 1 38 1 true rfl rfl rfl) ?_
  refine LinL.step (s := .val undef) [(40,some 0),(38,some 2)] rfl (by kernel_rfl) (op_no (reads:=[(40,some 0)]) 1 38 2 true rfl rfl rfl) ?_
  refine LinL.step (s := .val undef) [(41,some 0),(38,some 3)] rfl (by kernel_rfl) (op_no (reads:=[(41,some 0)]) 1 38 3 true rfl rfl rfl) ?_
  refine LinL.step (s := .val undef) [(0,none),(38,some 4)] rfl (by kernel_rfl) (op_no (reads:=[(0,none)]) 1 38 4 true rfl rfl rfl) ?_
  refine LinL.step (s := .val undef) [(43,some 0),(38,some 5)] rfl (by kernel_rfl) (op_no (reads:=[(43,some 0)]) 1 38 5 true rfl rfl rfl) ?_
  refine LinL.step (s := .val undef) [(44,some 0),(38,some 6)] rfl (by kernel_rfl) (op_no (reads:=[(44,some 0)]) 1 38 6 true rfl rfl rfl) ?_
  refine LinL.step (s := .val undef) [(45,some 0),(38,some 7)] rfl (by kernel_rfl) (op_no (reads:=[(45,some 0)]) 1 38 7 true rfl rfl rfl) ?_
  refine LinL.step (s := .val undef) [(46,some 0),(38,some 8)] rfl (by kernel_rfl) (op_no (reads:=[(46,some 0)]) 1 38 8 true rfl rfl rfl) ?_
  refine LinL.step (s := .val undef) [(47,some 0),(38,some 9)] rfl (by kernel_rfl) (op_no (reads:=[(47,some 0)]) 1 38 9 true rfl rfl rfl) ?_
  refine LinL.step (s := .val undef) [(48,some 0),(38,some 10)] rfl (by kernel_rfl) (op_no (reads:=[(48,some 0)]) 1 38 10 true rfl rfl rfl) ?_
  refine LinL.step (s := .val undef) [(49,some 0),(38,some 11)] rfl (by kernel_rfl) (op_no (reads:=[(49,some 0)]) 1 38 11 true rfl rfl rfl) ?_
  refine LinL.step (s := .val undef) [(42,some 8),(50,some 0),(38,some 12)] rfl (by kernel_rfl) (op_no (reads:=[(42,some 8),(50,some 0)]) 1 38 12 true rfl rfl rfl) ?_
  refine LinL.step (s := .val undef) [(0,none),(38,some 13)] rfl (by kernel_rfl) (op_no (reads:=[(0,none)]) 1 38 13 true rfl rfl rfl) ?_
  refine LinL.step (s := .val undef) [(52,some 0),(38,some 14)] rfl (by kernel_rfl) (op_no (reads:=[(52,some 0)]) 1 38 14 true rfl rfl rfl) ?_
  refine LinL.step (s := .val undef) [(53,some 0),(38,some 15)] rfl (by kernel_rfl) (op_no (reads:=[(53,some 0)]) 1 38 15 true rfl rfl rfl) ?_
  refine LinL.step (s := .val undef) [(54,some 0),(38,some 16)] rfl (by kernel_rfl) (op_no (reads:=[(54,some 0)]) 1 38 16 true rfl rfl rfl) ?_
  refine LinL.step (s := .val undef) [(55,some 0),(38,some 17)] rfl (by kernel_rfl) (op_no (reads:=[(55,some 0)]) 1 38 17 true rfl rfl rfl) ?_
  refine LinL.step (s := .val undef) [(56,some 0),(38,some 18)] rfl (by kernel_rfl) (op_no (reads:=[(56,some 0)]) 1 38 18 true rfl rfl rfl) ?_
  refine LinL.step (s := .val undef) [(57,some 0),(38,some 19)] rfl (by kernel_rfl) (op_no (reads:=[(57,some 0)]) 1 38 19 true rfl rfl rfl) ?_
  refine LinL.step (s := .val undef) [(51,some 7),(58,some 0),(38,some 20)] rfl (by kernel_rfl) (op_no (reads:=[(51,some 7),(58,some 0)]) 1 38 20 true rfl rfl rfl) ?_
  refine LinL.step (s:=(.val (.bool false))) [(38,some 21),(59,some 0)] rfl (by kernel_rfl) (op_runs rfl fun σ w' hx hg=>⟨_,runs_pick_f (ρ := σ.eval) (w:=w') (.tmp 38) (.tmp 59) (.const (.bool false)) rfl hg.1 rfl,rfl⟩) ?_
  intro wN hxN
  refine z15z ?_
  replace hX:=hX.trans (hxd.trans hxN);replace f2:=f2.ext (hxd.trans hxN);clear hxd hxN HT FT F0
  have hT6:=hT.out.ext hX
  have hS6:=hide_ (Stp.ofExt (lo:=1) (hi:=8) hX hT.out.bnd)
  rw [hoff.out] at hT6
  clear hX
  go_wp2_with ((first | (refine w_2build (i64s [4,5]) rfl rfl rfl (by intro p hp;simp at hp;rcases hp with rfl|rfl <;> exact ⟨by decide,rfl⟩) ?_) | fail) <;> (try refine z0z ?_))
  go_loopw [66] (fun i wr => ∃ (k:Nat) (S3:Nat→Nat) (ov3:Value),i = .int .i64 k∧k≤2∧TrnW S3 wr tb p kv ov3 sv dv q gp gs kn (CoD.ck e k)∧Stp 1 8 S S3 w wr) (fun i _=>2 - (RowKit.intOf i).toNat)
  case atStart=>exact ⟨0,_,_,rfl,by omega,hT6,hS6.out⟩
  case round =>
   clear hT6 hS6
   obtain ⟨k,S3,ov3,rfl,hk,hTr0,hSr⟩:=hrel
   by_cases hge:2≤k
   ·obtain rfl:k = 2:=by omega
    go_wp2
    go_end0
    exact z5uz
   have hk2:k < 2:=by omega
   have t2:decide ((k:Int) < 2) = true:=by simp;omega
   obtain ⟨d,hd0⟩:∃ d,CoD.ck e k = d:=⟨_,rfl⟩
   obtain ⟨kk,hkk0⟩:∃ kk:Int,4 + (k:Int) = kk:=⟨_,rfl⟩
   have hkv:=hide_ (show (i64s [4,5])[k]? = some (.int .i64 kk) from by
    rcases (show k = 0∨k = 1 by omega) with rfl|rfl <;> (subst hkk0;rfl))
   have hckl:=hide_ (show d.view = c.view∧d.me = c.me∧d.out.length≤c.out.length + 1 + k from by rw [← hd0];exact ck_fine hef.out k)
   have hdv:=hide_ (show In64 d.view from by rw [hckl.out.1];exact hv64.out)
   have hkk:=hide_ (show In64 kk from by unfold In64;omega)
   have hme:=hide_ (show d.me≤1000000 from by rw [hckl.out.2.1];exact hme0.out)
   obtain ⟨r,hr0⟩:∃ r,d.T kk d.view d.me = r:=⟨_,rfl⟩
   obtain ⟨vx,hvx⟩:∃ x,r.getD 0 = x:=⟨_,rfl⟩
   obtain ⟨vo,hvo0⟩:∃ x,r.isSome = x:=⟨_,rfl⟩
   have hvo:=hide_ (show (d.T kk d.view d.me).getD 0 = vx∧(d.T kk d.view d.me).isSome = vo from by rw [hr0];exact ⟨hvx,hvo0⟩)
   have hnext:CoD.ck e (k + 1) = if vo = true then d.once (d.vote kk vx) else d:=by
    rw [ck_succ,hd0,hkk0];unfold CoD.ov
    rw [hr0]
    cases r with
    | none=>subst hvo0;rfl
    | some y=>subst hvo0;subst hvx;rfl
   rw [hd0] at hTr0
   have hTr:=hide_ hTr0
   have hSr':=hide_ hSr
   have hlk:=hide_ (show (d.out.length + 1) * 128≤140737488355328 from by have:=hlen.out;have:=hckl.out.2.2;omega)
   have hkk45:=hide_ (show kk≠6 from by omega)
   have hk':=hide_ hk2
   cases vo with
   | false =>
    have hn:=hide_ (show CoD.ck e (k + 1) = d from by rw [hnext];rfl)
    clear hd0 hkk0 hr0 hvx hvo0 hnext hTr0 hSr hge hk
    go_wp2_with ((first | refine z2dz ?_ | fail) <;> (try refine z0z ?_))
    refine zmz ?_;intro wd hxd;have HT:=hTr.out.ext hxd;have FT:=HT.turn;have F0:=HT.cor.obj
    refine znz ?_
    intro wN hxN
    refine z15z ?_
    have hX3:=hxd.trans hxN;clear hxd hxN HT FT F0
    go_wp2
    go_roundw
    case rel=>exact z4lz
    case measure=>have:=hk'.out;simp [RowKit.intOf];omega
   | true =>
    have hn:=hide_ (show CoD.ck e (k + 1) = d.once (fil d ⟨kk,0,0,0,vx,0⟩) from by
     rw [hnext]
     unfold fil CoD.vote
     simp only [if_true]
     rw [if_neg hkk45.out])
    clear hd0 hkk0 hr0 hvx hvo0 hnext hTr0 hSr hge hk
    go_wp2_with ((first | refine z2dz ?_ | fail) <;> (try refine z0z ?_))
    refine zmz ?_;intro wd hxd;have HT:=hTr.out.ext hxd;have FT:=HT.turn;have F0:=HT.cor.obj
    refine z1oz ?_
    intro wN hxN
    refine z15z ?_
    have hX3:=hxd.trans hxN;clear hxd hxN HT FT F0
    go_wp2_with ((first | (refine z4rz ?_;refine w_mbuild (mRow (⟨kk,0,0,0,vx,0⟩:MsV).msg (.slice none 0 0)) rfl rfl rfl (by intro p hp;simp at hp;rcases hp with rfl|rfl <;> exact ⟨by decide,rfl⟩) ?_) | (go_at_call 54;refine (sendOnce_turn (m:=⟨kk,0,0,0,vx,0⟩) (hTr.out.ext hX3) hlk.out).mono ?_;rintro e w6 ⟨rfl,S6,ov6,hT6,hs6⟩) | fail) <;> (try refine z0z ?_))
    go_roundw
    case rel=>exact z4mz
    case measure=>have:=hk'.out;simp [RowKit.intOf];omega
 | some pp =>
  obtain ⟨rx,ru⟩:=pp
  obtain ⟨ok,hok⟩:∃ b,b = true:=⟨_,rfl⟩
  have hpr:=hide_ (show (c.prop c.view).getD (0,0) = (rx,ru)∧(c.prop c.view).isSome = ok from by rw [hpp,hok];exact ⟨rfl,rfl⟩)
  have hok':=hide_ hok
  by_cases hlm:l = (c.me:Int)
  rotate_left
  ·have tl:(l == (c.me:Int)) = false:=by simpa using hlm
   have hoff:=hide_ (show c = e from by rw [← he0];unfold CoD.op;rw [hpp];simp only;rw [if_neg (by rw [hl0];exact hlm)])
   clear h hv0 hlen0 hs he0 hpo0 hpm0 hl0 hpp hlm hok
   go_enter Tryz.func34,Tryz.ntmps34
   go_wp2_with ((first | refine z5iz ?_ | refine z1nz ?_ | fail) <;> (try refine z0z ?_))
   refine wp_region_val [0,1,2,3,4,5,6,7,8,9,10,11,12,13,14,15,16,17,18,19,20,22] (fun i=>([18,19,20,21,22,23,24,25,26,27,28,29,30,31,32,33,34,17,35,36,2,0,3]:List Nat).getD i 0) (fun i x=>x = ([(.pointer (some ⟨tb,0,none⟩)),(.pointer (some ⟨tb,0,none⟩)),(.pointer (some ⟨tb,0,none⟩)),(.pointer (some ⟨p,0,none⟩)),(.pointer (some ⟨p,0,none⟩)),(.pointer (some ⟨p,6,none⟩)),(.pointer (some ⟨p,10,none⟩)),(.map (some gp)),(.pointer (some ⟨tb,0,none⟩)),(.pointer (some ⟨tb,0,none⟩)),(.pointer (some ⟨tb,0,none⟩)),(.pointer (some ⟨p,0,none⟩)),(.pointer (some ⟨p,0,none⟩)),(.pointer (some ⟨p,6,none⟩)),(.pointer (some ⟨p,6,none⟩)),(.int .i64 c.view),(.tuple #[.agg #[.int .i64 rx, .int .i64 ru], .bool ok]),(.tuple #[.agg #[.int .i64 rx, .int .i64 ru], .bool ok]),(.agg #[.int .i64 rx, .int .i64 ru]),(.bool ok),undef,undef,(.bool ok)]:List Value).getD i undef) 20 21 [.int .i64 0, .int .i64 0] (fun cs=>cs = [.int .i64 rx, .int .i64 ru]) (by kernel_rfl) (by kernel_rfl) (by kernel_rfl) (by decide) (by decide) (by kernel_rfl) (by intro i hi;show _ < 104;revert i;decide) (by kernel_rfl) (by decide) (by kernel_rfl) ?_ ?_ ?_ ?_
   ·intro i hi ha b w' hx hout hdep
    rcases (show i = 0∨i = 1∨i = 2∨i = 3∨i = 4∨i = 5∨i = 6∨i = 7∨i = 8∨i = 9∨i = 10∨i = 11∨i = 12∨i = 13∨i = 14∨i = 15∨i = 16∨i = 17∨i = 18∨i = 19∨i = 22 by simp at hi;omega) with rfl|rfl|rfl|rfl|rfl|rfl|rfl|rfl|rfl|rfl|rfl|rfl|rfl|rfl|rfl|rfl|rfl|rfl|rfl|rfl|rfl
    ·have e0:b.tmps.getD 0 undef = .pointer (some ⟨tb,0,none⟩):=hout 0 (by decide)
     exact z6tz
    ·have e18:b.tmps.getD 18 undef = .pointer (some ⟨tb,0,none⟩):=hdep 0 (by decide) (by decide) (by kernel_rfl)
     refine zgz ?_
     refine w_nilC _ rfl rfl e18 ?_
     exact zaz
    ·have e19:b.tmps.getD 19 undef = .pointer (some ⟨tb,0,none⟩):=hdep 1 (by decide) (by decide) (by kernel_rfl)
     refine zgz ?_
     refine z66z ?_
     exact zaz
    ·have e20:b.tmps.getD 20 undef = .pointer (some ⟨tb,0,none⟩):=hdep 2 (by decide) (by decide) (by kernel_rfl)
     refine zgz ?_
     refine z6lz ?_
     exact zaz
    ·have e21:b.tmps.getD 21 undef = .pointer (some ⟨p,0,none⟩):=hdep 3 (by decide) (by decide) (by kernel_rfl)
     refine zgz ?_
     refine w_nilC _ rfl rfl e21 ?_
     exact zaz
    ·have e22:b.tmps.getD 22 undef = .pointer (some ⟨p,0,none⟩):=hdep 4 (by decide) (by decide) (by kernel_rfl)
     refine zgz ?_
     refine z6dz ?_
     exact zaz
    ·have e23:b.tmps.getD 23 undef = .pointer (some ⟨p,6,none⟩):=hdep 5 (by decide) (by decide) (by kernel_rfl)
     refine zgz ?_
     refine z67z ?_
     exact zaz
    ·have e24:b.tmps.getD 24 undef = .pointer (some ⟨p,10,none⟩):=hdep 6 (by decide) (by decide) (by kernel_rfl)
     refine zgz ?_
     refine z68z ?_
     exact zaz
    ·have e0:b.tmps.getD 0 undef = .pointer (some ⟨tb,0,none⟩):=hout 0 (by decide)
     exact z6tz
    ·have e26:b.tmps.getD 26 undef = .pointer (some ⟨tb,0,none⟩):=hdep 8 (by decide) (by decide) (by kernel_rfl)
     refine zgz ?_
     refine w_nilC _ rfl rfl e26 ?_
     exact zaz
    ·have e27:b.tmps.getD 27 undef = .pointer (some ⟨tb,0,none⟩):=hdep 9 (by decide) (by decide) (by kernel_rfl)
     refine zgz ?_
     refine z69z ?_
     exact zaz
    ·have e28:b.tmps.getD 28 undef = .pointer (some ⟨tb,0,none⟩):=hdep 10 (by decide) (by decide) (by kernel_rfl)
     refine zgz ?_
     refine z6mz ?_
     exact zaz
    ·have e29:b.tmps.getD 29 undef = .pointer (some ⟨p,0,none⟩):=hdep 11 (by decide) (by decide) (by kernel_rfl)
     refine zgz ?_
     refine w_nilC _ rfl rfl e29 ?_
     exact zaz
    ·have e30:b.tmps.getD 30 undef = .pointer (some ⟨p,0,none⟩):=hdep 12 (by decide) (by decide) (by kernel_rfl)
     refine zgz ?_
     refine z6ez ?_
     exact zaz
    ·have e31:b.tmps.getD 31 undef = .pointer (some ⟨p,6,none⟩):=hdep 13 (by decide) (by decide) (by kernel_rfl)
     refine zgz ?_
     refine z6fz ?_
     exact zaz
    ·have e32:b.tmps.getD 32 undef = .pointer (some ⟨p,6,none⟩):=hdep 14 (by decide) (by decide) (by kernel_rfl)
     refine zgz ?_
     refine z6az ?_
     exact zaz
    ·have e25:b.tmps.getD 25 undef = .map (some gp):=hdep 7 (by decide) (by decide) (by kernel_rfl)
     have e33:b.tmps.getD 33 undef = .int .i64 c.view:=hdep 15 (by decide) (by decide) (by kernel_rfl)
     refine zgz ?_
     refine z5rz ?_
     exact zaz
    ·have e34:b.tmps.getD 34 undef = .tuple #[.agg #[.int .i64 rx, .int .i64 ru], .bool ok]:=hdep 16 (by decide) (by decide) (by kernel_rfl)
     exact z7jz
    ·have e17:b.tmps.getD 17 undef = .tuple #[.agg #[.int .i64 rx, .int .i64 ru], .bool ok]:=hdep 17 (by decide) (by decide) (by kernel_rfl)
     exact z7ez
    ·have e17:b.tmps.getD 17 undef = .tuple #[.agg #[.int .i64 rx, .int .i64 ru], .bool ok]:=hdep 17 (by decide) (by decide) (by kernel_rfl)
     exact z7ez
    ·have e36:b.tmps.getD 36 undef = .bool ok:=hdep 19 (by decide) (by decide) (by kernel_rfl)
     exact z7kz
   ·intro b w'
    refine z6uz ?_
    intro g w2 hg hx f
    exact z5gz
   ·intro b w' g hx e2 f hdep
    have e35:b.tmps.getD 35 undef = .agg #[.int .i64 rx, .int .i64 ru]:=hdep 18 (by decide) (by decide) (by kernel_rfl)
    refine zgz ?_
    refine w_astoreN Tryz.stPrep (.tmp 2) (.tmp 35) (us:=[.int .i64 rx, .int .i64 ru]) rfl rfl rfl e2 e35 f rfl rfl (by intro u hu;simp at hu;rcases hu with rfl|rfl <;> rfl) ?_
    intro w2 hm f2
    exact z4uz
   intro w8 x hx8 hv hc
   obtain ⟨g2,cs,eal,hg8,f2,rfl⟩:=hc
   have ek22:x 22 = .bool ok:=hv 22 (by decide) (by decide)
   simp only [List.foldl_cons,List.foldl_nil,eal,ek22]
   generalize x 0 = x100
   generalize x 1 = x101
   generalize x 2 = x102
   generalize x 3 = x103
   generalize x 4 = x104
   generalize x 5 = x105
   generalize x 6 = x106
   generalize x 7 = x107
   generalize x 8 = x108
   generalize x 9 = x109
   generalize x 10 = x110
   generalize x 11 = x111
   generalize x 12 = x112
   generalize x 13 = x113
   generalize x 14 = x114
   generalize x 15 = x115
   generalize x 16 = x116
   generalize x 17 = x117
   generalize x 18 = x118
   generalize x 19 = x119
   refine z1cz ?_
   clear hv eal ek22
   have hX:=hx8;rw [hok'.out]
   go_wp2
   refine zmz ?_;intro wd hxd;have HT:=hT.out.ext (hX.trans hxd);have FT:=HT.turn;have F0:=HT.cor.obj
   refine zkz ?_
   refine LinL.step (s:=(.val (.bool false))) [(51,some 7),(58,some 0),(38,some 20)] rfl (by kernel_rfl) (op_yes (reads:=[(51,some 7),(58,some 0)]) 1 38 20 true rfl rfl rfl (op_runs rfl fun σ w' hx hg=>⟨(.bool false),by have h51 : σ.tmps.getD 51 undef = .int .i64 l:=hg.1;have h58 : σ.tmps.getD 58 undef = .int .i64 (c.me:Nat):=hg.2.1;unfold Runs execOp;simp [Act.eval,h51,h58,go_sem,tl],rfl⟩)) ?_
   refine LinL.step (s:=(.val (.bool false))) [(38,some 21),(59,some 0)] rfl (by kernel_rfl) (op_runs rfl fun σ w' hx hg=>⟨_,runs_pick_t (ρ := σ.eval) (w:=w') (.tmp 38) (.tmp 59) (.const (.bool false)) rfl hg.1 hg.2.1,rfl⟩) ?_
   intro wN hxN
   refine z15z ?_
   replace hX:=hX.trans (hxd.trans hxN);replace f2:=f2.ext (hxd.trans hxN);clear hxd hxN HT FT F0
   have hT6:=hT.out.ext hX
   have hS6:=hide_ (Stp.ofExt (lo:=1) (hi:=8) hX hT.out.bnd)
   rw [hoff.out] at hT6
   clear hX
   go_wp2_with ((first | (refine w_2build (i64s [4,5]) rfl rfl rfl (by intro p hp;simp at hp;rcases hp with rfl|rfl <;> exact ⟨by decide,rfl⟩) ?_) | fail) <;> (try refine z0z ?_))
   go_loopw [66] (fun i wr => ∃ (k:Nat) (S3:Nat→Nat) (ov3:Value),i = .int .i64 k∧k≤2∧TrnW S3 wr tb p kv ov3 sv dv q gp gs kn (CoD.ck e k)∧Stp 1 8 S S3 w wr) (fun i _=>2 - (RowKit.intOf i).toNat)
   case atStart=>exact ⟨0,_,_,rfl,by omega,hT6,hS6.out⟩
   case round =>
    clear hT6 hS6
    obtain ⟨k,S3,ov3,rfl,hk,hTr0,hSr⟩:=hrel
    by_cases hge:2≤k
    ·obtain rfl:k = 2:=by omega
     go_wp2
     go_end0
     exact z5uz
    have hk2:k < 2:=by omega
    have t2:decide ((k:Int) < 2) = true:=by simp;omega
    obtain ⟨d,hd0⟩:∃ d,CoD.ck e k = d:=⟨_,rfl⟩
    obtain ⟨kk,hkk0⟩:∃ kk:Int,4 + (k:Int) = kk:=⟨_,rfl⟩
    have hkv:=hide_ (show (i64s [4,5])[k]? = some (.int .i64 kk) from by
     rcases (show k = 0∨k = 1 by omega) with rfl|rfl <;> (subst hkk0;rfl))
    have hckl:=hide_ (show d.view = c.view∧d.me = c.me∧d.out.length≤c.out.length + 1 + k from by rw [← hd0];exact ck_fine hef.out k)
    have hdv:=hide_ (show In64 d.view from by rw [hckl.out.1];exact hv64.out)
    have hkk:=hide_ (show In64 kk from by unfold In64;omega)
    have hme:=hide_ (show d.me≤1000000 from by rw [hckl.out.2.1];exact hme0.out)
    obtain ⟨r,hr0⟩:∃ r,d.T kk d.view d.me = r:=⟨_,rfl⟩
    obtain ⟨vx,hvx⟩:∃ x,r.getD 0 = x:=⟨_,rfl⟩
    obtain ⟨vo,hvo0⟩:∃ x,r.isSome = x:=⟨_,rfl⟩
    have hvo:=hide_ (show (d.T kk d.view d.me).getD 0 = vx∧(d.T kk d.view d.me).isSome = vo from by rw [hr0];exact ⟨hvx,hvo0⟩)
    have hnext:CoD.ck e (k + 1) = if vo = true then d.once (d.vote kk vx) else d:=by
     rw [ck_succ,hd0,hkk0];unfold CoD.ov
     rw [hr0]
     cases r with
     | none=>subst hvo0;rfl
     | some y=>subst hvo0;subst hvx;rfl
    rw [hd0] at hTr0
    have hTr:=hide_ hTr0
    have hSr':=hide_ hSr
    have hlk:=hide_ (show (d.out.length + 1) * 128≤140737488355328 from by have:=hlen.out;have:=hckl.out.2.2;omega)
    have hkk45:=hide_ (show kk≠6 from by omega)
    have hk':=hide_ hk2
    cases vo with
    | false =>
     have hn:=hide_ (show CoD.ck e (k + 1) = d from by rw [hnext];rfl)
     clear hd0 hkk0 hr0 hvx hvo0 hnext hTr0 hSr hge hk
     go_wp2_with ((first | refine z2dz ?_ | fail) <;> (try refine z0z ?_))
     refine zmz ?_;intro wd hxd;have HT:=hTr.out.ext hxd;have FT:=HT.turn;have F0:=HT.cor.obj
     refine znz ?_
     intro wN hxN
     refine z15z ?_
     have hX3:=hxd.trans hxN;clear hxd hxN HT FT F0
     go_wp2
     go_roundw
     case rel=>exact z4lz
     case measure=>have:=hk'.out;simp [RowKit.intOf];omega
    | true =>
     have hn:=hide_ (show CoD.ck e (k + 1) = d.once (fil d ⟨kk,0,0,0,vx,0⟩) from by
      rw [hnext]
      unfold fil CoD.vote
      simp only [if_true]
      rw [if_neg hkk45.out])
     clear hd0 hkk0 hr0 hvx hvo0 hnext hTr0 hSr hge hk
     go_wp2_with ((first | refine z2dz ?_ | fail) <;> (try refine z0z ?_))
     refine zmz ?_;intro wd hxd;have HT:=hTr.out.ext hxd;have FT:=HT.turn;have F0:=HT.cor.obj
     refine z1oz ?_
     intro wN hxN
     refine z15z ?_
     have hX3:=hxd.trans hxN;clear hxd hxN HT FT F0
     go_wp2_with ((first | (refine z4rz ?_;refine w_mbuild (mRow (⟨kk,0,0,0,vx,0⟩:MsV).msg (.slice none 0 0)) rfl rfl rfl (by intro p hp;simp at hp;rcases hp with rfl|rfl <;> exact ⟨by decide,rfl⟩) ?_) | (go_at_call 54;refine (sendOnce_turn (m:=⟨kk,0,0,0,vx,0⟩) (hTr.out.ext hX3) hlk.out).mono ?_;rintro e w6 ⟨rfl,S6,ov6,hT6,hs6⟩) | fail) <;> (try refine z0z ?_))
     go_roundw
     case rel=>exact z4mz
     case measure=>have:=hk'.out;simp [RowKit.intOf];omega
  have tl:(l == (c.me:Int)) = true:=by simpa using hlm
  have hoff:=hide_ (show c.once (fil c ⟨3,0,0,0,rx,ru⟩) = e from by
   rw [← he0];unfold CoD.op;rw [hpp];simp only
   rw [if_pos (by rw [hl0];exact hlm)]
   unfold CoD.offer fil
   simp only
   rw [if_neg (by omega)])
  clear h hv0 hlen0 hs he0 hpo0 hpm0 hl0 hpp hlm hok
  go_enter Tryz.func34,Tryz.ntmps34
  go_wp2_with ((first | refine z5iz ?_ | refine z1nz ?_ | fail) <;> (try refine z0z ?_))
  refine wp_region_val [0,1,2,3,4,5,6,7,8,9,10,11,12,13,14,15,16,17,18,19,20,22] (fun i=>([18,19,20,21,22,23,24,25,26,27,28,29,30,31,32,33,34,17,35,36,2,0,3]:List Nat).getD i 0) (fun i x=>x = ([(.pointer (some ⟨tb,0,none⟩)),(.pointer (some ⟨tb,0,none⟩)),(.pointer (some ⟨tb,0,none⟩)),(.pointer (some ⟨p,0,none⟩)),(.pointer (some ⟨p,0,none⟩)),(.pointer (some ⟨p,6,none⟩)),(.pointer (some ⟨p,10,none⟩)),(.map (some gp)),(.pointer (some ⟨tb,0,none⟩)),(.pointer (some ⟨tb,0,none⟩)),(.pointer (some ⟨tb,0,none⟩)),(.pointer (some ⟨p,0,none⟩)),(.pointer (some ⟨p,0,none⟩)),(.pointer (some ⟨p,6,none⟩)),(.pointer (some ⟨p,6,none⟩)),(.int .i64 c.view),(.tuple #[.agg #[.int .i64 rx, .int .i64 ru], .bool ok]),(.tuple #[.agg #[.int .i64 rx, .int .i64 ru], .bool ok]),(.agg #[.int .i64 rx, .int .i64 ru]),(.bool ok),undef,undef,(.bool ok)]:List Value).getD i undef) 20 21 [.int .i64 0, .int .i64 0] (fun cs=>cs = [.int .i64 rx, .int .i64 ru]) (by kernel_rfl) (by kernel_rfl) (by kernel_rfl) (by decide) (by decide) (by kernel_rfl) (by intro i hi;show _ < 104;revert i;decide) (by kernel_rfl) (by decide) (by kernel_rfl) ?_ ?_ ?_ ?_
  ·intro i hi ha b w' hx hout hdep
   rcases (show i = 0∨i = 1∨i = 2∨i = 3∨i = 4∨i = 5∨i = 6∨i = 7∨i = 8∨i = 9∨i = 10∨i = 11∨i = 12∨i = 13∨i = 14∨i = 15∨i = 16∨i = 17∨i = 18∨i = 19∨i = 22 by simp at hi;omega) with rfl|rfl|rfl|rfl|rfl|rfl|rfl|rfl|rfl|rfl|rfl|rfl|rfl|rfl|rfl|rfl|rfl|rfl|rfl|rfl|rfl
   ·have e0:b.tmps.getD 0 undef = .pointer (some ⟨tb,0,none⟩):=hout 0 (by decide)
    exact z6tz
   ·have e18:b.tmps.getD 18 undef = .pointer (some ⟨tb,0,none⟩):=hdep 0 (by decide) (by decide) (by kernel_rfl)
    refine zgz ?_
    refine w_nilC _ rfl rfl e18 ?_
    exact zaz
   ·have e19:b.tmps.getD 19 undef = .pointer (some ⟨tb,0,none⟩):=hdep 1 (by decide) (by decide) (by kernel_rfl)
    refine zgz ?_
    refine z66z ?_
    exact zaz
   ·have e20:b.tmps.getD 20 undef = .pointer (some ⟨tb,0,none⟩):=hdep 2 (by decide) (by decide) (by kernel_rfl)
    refine zgz ?_
    refine z6lz ?_
    exact zaz
   ·have e21:b.tmps.getD 21 undef = .pointer (some ⟨p,0,none⟩):=hdep 3 (by decide) (by decide) (by kernel_rfl)
    refine zgz ?_
    refine w_nilC _ rfl rfl e21 ?_
    exact zaz
   ·have e22:b.tmps.getD 22 undef = .pointer (some ⟨p,0,none⟩):=hdep 4 (by decide) (by decide) (by kernel_rfl)
    refine zgz ?_
    refine z6dz ?_
    exact zaz
   ·have e23:b.tmps.getD 23 undef = .pointer (some ⟨p,6,none⟩):=hdep 5 (by decide) (by decide) (by kernel_rfl)
    refine zgz ?_
    refine z67z ?_
    exact zaz
   ·have e24:b.tmps.getD 24 undef = .pointer (some ⟨p,10,none⟩):=hdep 6 (by decide) (by decide) (by kernel_rfl)
    refine zgz ?_
    refine z68z ?_
    exact zaz
   ·have e0:b.tmps.getD 0 undef = .pointer (some ⟨tb,0,none⟩):=hout 0 (by decide)
    exact z6tz
   ·have e26:b.tmps.getD 26 undef = .pointer (some ⟨tb,0,none⟩):=hdep 8 (by decide) (by decide) (by kernel_rfl)
    refine zgz ?_
    refine w_nilC _ rfl rfl e26 ?_
    exact zaz
   ·have e27:b.tmps.getD 27 undef = .pointer (some ⟨tb,0,none⟩):=hdep 9 (by decide) (by decide) (by kernel_rfl)
    refine zgz ?_
    refine z69z ?_
    exact zaz
   ·have e28:b.tmps.getD 28 undef = .pointer (some ⟨tb,0,none⟩):=hdep 10 (by decide) (by decide) (by kernel_rfl)
    refine zgz ?_
    refine z6mz ?_
    exact zaz
   ·have e29:b.tmps.getD 29 undef = .pointer (some ⟨p,0,none⟩):=hdep 11 (by decide) (by decide) (by kernel_rfl)
    refine zgz ?_
    refine w_nilC _ rfl rfl e29 ?_
    exact zaz
   ·have e30:b.tmps.getD 30 undef = .pointer (some ⟨p,0,none⟩):=hdep 12 (by decide) (by decide) (by kernel_rfl)
    refine zgz ?_
    refine z6ez ?_
    exact zaz
   ·have e31:b.tmps.getD 31 undef = .pointer (some ⟨p,6,none⟩):=hdep 13 (by decide) (by decide) (by kernel_rfl)
    refine zgz ?_
    refine z6fz ?_
    exact zaz
   ·have e32:b.tmps.getD 32 undef = .pointer (some ⟨p,6,none⟩):=hdep 14 (by decide) (by decide) (by kernel_rfl)
    refine zgz ?_
    refine z6az ?_
    exact zaz
   ·have e25:b.tmps.getD 25 undef = .map (some gp):=hdep 7 (by decide) (by decide) (by kernel_rfl)
    have e33:b.tmps.getD 33 undef = .int .i64 c.view:=hdep 15 (by decide) (by decide) (by kernel_rfl)
    refine zgz ?_
    refine z5rz ?_
    exact zaz
   ·have e34:b.tmps.getD 34 undef = .tuple #[.agg #[.int .i64 rx, .int .i64 ru], .bool ok]:=hdep 16 (by decide) (by decide) (by kernel_rfl)
    exact z7jz
   ·have e17:b.tmps.getD 17 undef = .tuple #[.agg #[.int .i64 rx, .int .i64 ru], .bool ok]:=hdep 17 (by decide) (by decide) (by kernel_rfl)
    exact z7ez
   ·have e17:b.tmps.getD 17 undef = .tuple #[.agg #[.int .i64 rx, .int .i64 ru], .bool ok]:=hdep 17 (by decide) (by decide) (by kernel_rfl)
    exact z7ez
   ·have e36:b.tmps.getD 36 undef = .bool ok:=hdep 19 (by decide) (by decide) (by kernel_rfl)
    exact z7kz
  ·intro b w'
   refine z6uz ?_
   intro g w2 hg hx f
   exact z5gz
  ·intro b w' g hx e2 f hdep
   have e35:b.tmps.getD 35 undef = .agg #[.int .i64 rx, .int .i64 ru]:=hdep 18 (by decide) (by decide) (by kernel_rfl)
   refine zgz ?_
   refine w_astoreN Tryz.stPrep (.tmp 2) (.tmp 35) (us:=[.int .i64 rx, .int .i64 ru]) rfl rfl rfl e2 e35 f rfl rfl (by intro u hu;simp at hu;rcases hu with rfl|rfl <;> rfl) ?_
   intro w2 hm f2
   exact z4uz
  intro w8 x hx8 hv hc
  obtain ⟨g2,cs,eal,hg8,f2,rfl⟩:=hc
  have ek22:x 22 = .bool ok:=hv 22 (by decide) (by decide)
  simp only [List.foldl_cons,List.foldl_nil,eal,ek22]
  generalize x 0 = x100
  generalize x 1 = x101
  generalize x 2 = x102
  generalize x 3 = x103
  generalize x 4 = x104
  generalize x 5 = x105
  generalize x 6 = x106
  generalize x 7 = x107
  generalize x 8 = x108
  generalize x 9 = x109
  generalize x 10 = x110
  generalize x 11 = x111
  generalize x 12 = x112
  generalize x 13 = x113
  generalize x 14 = x114
  generalize x 15 = x115
  generalize x 16 = x116
  generalize x 17 = x117
  generalize x 18 = x118
  generalize x 19 = x119
  refine z1cz ?_
  clear hv eal ek22
  have hX:=hx8;rw [hok'.out]
  go_wp2
  refine zmz ?_;intro wd hxd;have HT:=hT.out.ext (hX.trans hxd);have FT:=HT.turn;have F0:=HT.cor.obj
  refine zkz ?_
  refine LinL.step (s:=(.val (.bool true))) [(51,some 7),(58,some 0),(38,some 20)] rfl (by kernel_rfl) (op_yes (reads:=[(51,some 7),(58,some 0)]) 1 38 20 true rfl rfl rfl (op_runs rfl fun σ w' hx hg=>⟨(.bool true),by have h51 : σ.tmps.getD 51 undef = .int .i64 l:=hg.1;have h58 : σ.tmps.getD 58 undef = .int .i64 (c.me:Nat):=hg.2.1;unfold Runs execOp;simp [Act.eval,h51,h58,go_sem,tl],rfl⟩)) ?_
  refine LinL.step (s:=(.val (.bool true))) [(38,some 21),(59,some 0)] rfl (by kernel_rfl) (op_runs rfl fun σ w' hx hg=>⟨_,runs_pick_t (ρ := σ.eval) (w:=w') (.tmp 38) (.tmp 59) (.const (.bool false)) rfl hg.1 hg.2.1,rfl⟩) ?_
  intro wN hxN
  refine z15z ?_
  replace hX:=hX.trans (hxd.trans hxN);replace f2:=f2.ext (hxd.trans hxN);clear hxd hxN HT FT F0
  go_wp2_with ((first | ((with_reducible refine at_load ?_);refine w_loadB Tryz.stPrep _ [.int .i64 rx, .int .i64 ru] rfl rfl rfl f2 rfl rfl ?_) | (go_at_call 52;refine (proposal_any).mono ?_;rintro e w5 ⟨rfl,hx⟩;replace f2:=f2.ext hx;replace hX:=hX.trans hx;clear hx) | (go_at_call 54;refine (sendOnce_turn (m:=⟨3,0,0,0,rx,ru⟩) (hT.out.ext hX) hlen1.out).mono ?_;rintro e w6 ⟨rfl,S6,ov6,hT6,hs6⟩;rw [hoff.out] at hT6;have hS6:=hide_ ((Stp.ofExt (lo:=1) (hi:=8) hX hT.out.bnd).trans hs6);clear hs6 hX) | (refine w_2build (i64s [4,5]) rfl rfl rfl (by intro p hp;simp at hp;rcases hp with rfl|rfl <;> exact ⟨by decide,rfl⟩) ?_) | fail) <;> (try refine z0z ?_))
  go_loopw [66] (fun i wr => ∃ (k:Nat) (S3:Nat→Nat) (ov3:Value),i = .int .i64 k∧k≤2∧TrnW S3 wr tb p kv ov3 sv dv q gp gs kn (CoD.ck e k)∧Stp 1 8 S S3 w wr) (fun i _=>2 - (RowKit.intOf i).toNat)
  case atStart=>exact ⟨0,_,_,rfl,by omega,hT6,hS6.out⟩
  case round =>
   clear hT6 hS6
   obtain ⟨k,S3,ov3,rfl,hk,hTr0,hSr⟩:=hrel
   by_cases hge:2≤k
   ·obtain rfl:k = 2:=by omega
    go_wp2
    go_end0
    exact z5uz
   have hk2:k < 2:=by omega
   have t2:decide ((k:Int) < 2) = true:=by simp;omega
   obtain ⟨d,hd0⟩:∃ d,CoD.ck e k = d:=⟨_,rfl⟩
   obtain ⟨kk,hkk0⟩:∃ kk:Int,4 + (k:Int) = kk:=⟨_,rfl⟩
   have hkv:=hide_ (show (i64s [4,5])[k]? = some (.int .i64 kk) from by
    rcases (show k = 0∨k = 1 by omega) with rfl|rfl <;> (subst hkk0;rfl))
   have hckl:=hide_ (show d.view = c.view∧d.me = c.me∧d.out.length≤c.out.length + 1 + k from by rw [← hd0];exact ck_fine hef.out k)
   have hdv:=hide_ (show In64 d.view from by rw [hckl.out.1];exact hv64.out)
   have hkk:=hide_ (show In64 kk from by unfold In64;omega)
   have hme:=hide_ (show d.me≤1000000 from by rw [hckl.out.2.1];exact hme0.out)
   obtain ⟨r,hr0⟩:∃ r,d.T kk d.view d.me = r:=⟨_,rfl⟩
   obtain ⟨vx,hvx⟩:∃ x,r.getD 0 = x:=⟨_,rfl⟩
   obtain ⟨vo,hvo0⟩:∃ x,r.isSome = x:=⟨_,rfl⟩
   have hvo:=hide_ (show (d.T kk d.view d.me).getD 0 = vx∧(d.T kk d.view d.me).isSome = vo from by rw [hr0];exact ⟨hvx,hvo0⟩)
   have hnext:CoD.ck e (k + 1) = if vo = true then d.once (d.vote kk vx) else d:=by
    rw [ck_succ,hd0,hkk0];unfold CoD.ov
    rw [hr0]
    cases r with
    | none=>subst hvo0;rfl
    | some y=>subst hvo0;subst hvx;rfl
   rw [hd0] at hTr0
   have hTr:=hide_ hTr0
   have hSr':=hide_ hSr
   have hlk:=hide_ (show (d.out.length + 1) * 128≤140737488355328 from by have:=hlen.out;have:=hckl.out.2.2;omega)
   have hkk45:=hide_ (show kk≠6 from by omega)
   have hk':=hide_ hk2
   cases vo with
   | false =>
    have hn:=hide_ (show CoD.ck e (k + 1) = d from by rw [hnext];rfl)
    clear hd0 hkk0 hr0 hvx hvo0 hnext hTr0 hSr hge hk
    go_wp2_with ((first | refine z2dz ?_ | fail) <;> (try refine z0z ?_))
    refine zmz ?_;intro wd hxd;have HT:=hTr.out.ext hxd;have FT:=HT.turn;have F0:=HT.cor.obj
    refine znz ?_
    intro wN hxN
    refine z15z ?_
    have hX3:=hxd.trans hxN;clear hxd hxN HT FT F0
    go_wp2
    go_roundw
    case rel=>exact z4lz
    case measure=>have:=hk'.out;simp [RowKit.intOf];omega
   | true =>
    have hn:=hide_ (show CoD.ck e (k + 1) = d.once (fil d ⟨kk,0,0,0,vx,0⟩) from by
     rw [hnext]
     unfold fil CoD.vote
     simp only [if_true]
     rw [if_neg hkk45.out])
    clear hd0 hkk0 hr0 hvx hvo0 hnext hTr0 hSr hge hk
    go_wp2_with ((first | refine z2dz ?_ | fail) <;> (try refine z0z ?_))
    refine zmz ?_;intro wd hxd;have HT:=hTr.out.ext hxd;have FT:=HT.turn;have F0:=HT.cor.obj
    refine z1oz ?_
    intro wN hxN
    refine z15z ?_
    have hX3:=hxd.trans hxN;clear hxd hxN HT FT F0
    go_wp2_with ((first | (refine z4rz ?_;refine w_mbuild (mRow (⟨kk,0,0,0,vx,0⟩:MsV).msg (.slice none 0 0)) rfl rfl rfl (by intro p hp;simp at hp;rcases hp with rfl|rfl <;> exact ⟨by decide,rfl⟩) ?_) | (go_at_call 54;refine (sendOnce_turn (m:=⟨kk,0,0,0,vx,0⟩) (hTr.out.ext hX3) hlk.out).mono ?_;rintro e w6 ⟨rfl,S6,ov6,hT6,hs6⟩) | fail) <;> (try refine z0z ?_))
    go_roundw
    case rel=>exact z4mz
    case measure=>have:=hk'.out;simp [RowKit.intOf];omega
end Go.Proofs.YtdoeoncmhaihbaaGreat
