/- What was sent already; a vote that is cast; a step that is begun; a proposal as a message; what is known. · A view is entered; a step in which nothing came is given up; what is said again. -/
import Derived.Test.YtdoeoncmhaihbaaGreatPk12
namespace Go.Proofs.YtdoeoncmhaihbaaGreat
set_option maxHeartbeats 3200000
set_option maxRecDepth 100000
open Go.RowKit
def AcR (_:World) (row:List Value) (a:AcV):Prop:=row = acRow a
theorem AcR.stays:Stays AcR:=fun _ _ _ _ h _=>h
theorem Tryz.elAct:ElS Tryz.prog 45 53 14:=Tryz.elActN.elS
theorem RowN.acts {F:Nat→Prop} {w:World} {v:Value} {l:List AcV} (h:RowN F w 53 14 v (l.map acRow)):Recs 14 AcR w v l:=h.recs (by simp) fun k row d h1 h2=>by
 rw [List.getElem?_map,h2] at h1
 injection h1 with h1
 exact h1.symm
theorem w_acidx {P:Program} {ops:Array Oper} {rest:List Oper} {o:Oper} {a:Act} {Q:Exit→Act→World→Prop} {w W0:World} {t e:TypeId} {v:Value} {l:List AcV} (E:ElS P t e 14) (x y:Operand) (i:Nat) (hgd:o.guard = none) (ho:o.op = .indexAddr t x y) (hv:a.eval x = v) (hy:a.eval y = .int .i64 i)
  (h:Recs 14 AcR W0 v l) (he:Ext W0 w) {d:AcV} (hd:l[i]? = some d) (k:∀ p,RowAt w p (acRow d)→wpList P ops Q rest (a.put o.dst (.pointer (some p))) w):wpList P ops Q (o :: rest) a w:=by
 have hi:=(List.getElem?_eq_some_iff.1 hd).1
 have e:l[i] = d:=(List.getElem?_eq_some_iff.1 hd).2
 refine w_ridx0 E x y i AcR.stays hgd ho hv hy h he hi ?_
 rintro pa row hrow _ hR
 rw [e] at hR
 have hr:row = acRow d:=hR
 subst hr
 exact k pa (hrow.ext he)
theorem msg_inj {a b:MsV}:a.msg = b.msg ↔ a = b:=⟨fun h=>by rw [← msv_msg a, ← msv_msg b,h],fun h=>by rw [h]⟩
theorem once1_turn {S:Nat→Nat} {w:World} {tb p q gp gs:Nat} {kv ov sv dv:Value} {kn:List Int} {c:CoD} {m:MsV} {a:AcV} {g1 g2:Nat} (h:TrnW S w tb p kv ov sv dv q gp gs kn c) (f10:Fs w g1 [.pointer (some ⟨tb,0,none⟩)]) (f20:Fs w g2 (mRow m.msg (.slice none 0 0))) {r:Bool} (hr0:decide (a.m = fil c m) = r) :
  Calls Tryz.prog 68 #[.agg (acRow a).toArray, .pointer (some ⟨g1,0,none⟩), .pointer (some ⟨g2,0,none⟩)] w fun e w'=>e = .returned (.bool r)∧Ext w w':=by
 refine z2rz ?_
 have hT:=hide_ h
 have f1:=hide_ f10
 have f2:=hide_ f20
 have hr:=hide_ (show decide (a.m.msg = (fil c m).msg) = r from by rw [← hr0];exact decide_eq_decide.2 msg_inj)
 have hX:=Ext.refl w
 clear h f10 f20 hr0
 go_enter Tryz.func68,Tryz.ntmps68
 go_wp2_with ((first | ((with_reducible refine at_box ?_);refine w_box _ (acRow a) rfl rfl rfl rfl ?_;intro g3 w1 hg3 hx f3;replace hX:=hX.trans hx;clear hx) | fail) <;> (try refine z0z ?_))
 refine zmz ?_;intro wd hxd;have HT:=hT.out.ext (hX.trans hxd);have F1:=f1.out.ext (hX.trans hxd);have F2:=f2.out.ext (hX.trans hxd);have F3:=f3.ext hxd
 refine Ph.rest 0 7 (by kernel_rfl) ?_
 refine LinL.st [(3,none)] rfl (opfo 1 1 1 g3) ?_
 refine LinL.step (s:=(.val (.agg (mRow a.m.msg (.slice none 0 0)).toArray))) [(5,some 0)] rfl (by kernel_rfl) (op_runs rfl fun σ w' hx hg=>⟨_,runs_loadB (ρ := σ.eval) (w:=w') Tryz.stMsg (.tmp 5) (us:=mRow a.m.msg (.slice none 0 0)) rfl hg.1 (F3.ext hx) rfl rfl,rfl⟩) ?_
 refine LinL.step (s:=(.val (.pointer (some ⟨tb,0,none⟩)))) [(1,none)] rfl (by kernel_rfl) (op_runs rfl fun σ w' hx hg=>⟨_,runs_fload (ρ := σ.eval) (w:=w') (.tmp 1) rfl hg.1 (agg_of (by kernel_rfl) _) (F1.ext hx) rfl,rfl⟩) ?_
 refine LinL.step (s:=(.val (.agg (mRow m.msg (.slice none 0 0)).toArray))) [(2,none)] rfl (by kernel_rfl) (op_runs rfl fun σ w' hx hg=>⟨_,runs_loadN (ρ := σ.eval) (w:=w') (us:=mRow m.msg (.slice none 0 0)) Tryz.stMsg (.tmp 2) rfl hg.1 (F2.ext hx) rfl mself_at,rfl⟩) ?_
 refine LinL.step (s:=(.val (.agg (mRow (fil c m).msg (.slice none 0 0)).toArray))) [(7,some 1),(8,some 0)] rfl (by kernel_rfl) (op_calls 67 #[(.tmp 7),(.tmp 8)] #[92,42] (fun σ => #[.pointer (some ⟨tb,0,none⟩), .agg (mRow m.msg (.slice none 0 0)).toArray]) rfl rfl (fun _ _=>rfl) fun σ w' hx hg=>⟨by have h7 : σ.tmps.getD 7 undef = .pointer (some ⟨tb,0,none⟩):=hg.1;have h8 : σ.tmps.getD 8 undef = .agg (mRow m.msg (.slice none 0 0)).toArray:=hg.2.1;simp only [List.map_toArray,List.map_cons,List.map_nil,Act.eval,h7,h8],rdV (filled_turn (HT.ext hx))⟩) ?_
 refine LinL.step (s:=(.val (.bool r))) [(6,some 3),(9,some 0)] rfl (by kernel_rfl) (op_calls 69 #[(.tmp 6),(.tmp 9)] #[42,42] (fun σ => #[.agg (mRow a.m.msg (.slice none 0 0)).toArray, .agg (mRow (fil c m).msg (.slice none 0 0)).toArray]) rfl rfl (fun _ _=>rfl) fun σ w' hx hg=>⟨by have h6 : σ.tmps.getD 6 undef = .agg (mRow a.m.msg (.slice none 0 0)).toArray:=hg.1;have h9 : σ.tmps.getD 9 undef = .agg (mRow (fil c m).msg (.slice none 0 0)).toArray:=hg.2.1;simp only [List.map_toArray,List.map_cons,List.map_nil,Act.eval,h6,h9],rdV (by rw [← hr.out];exact MSame_any (OwnT.nil 0 _).recs (OwnT.nil 0 _).recs)⟩) ?_
 refine LinL.st [(10,some 0)] rfl (opcp (.val (.bool r))) ?_
 intro wN hxN
 refine z15z ?_
 replace hX:=hX.trans (hxd.trans hxN)
 go_wp2
 go_ret
 exact z4pz
theorem IndexAct_turn {S:Nat→Nat} {w:World} {tb p q gp gs:Nat} {kv ov sv dv:Value} {kn:List Int} {c:CoD} {m:MsV} {g1 g2:Nat} (h:TrnW S w tb p kv ov sv dv q gp gs kn c) (f10:Fs w g1 [.pointer (some ⟨tb,0,none⟩)]) (f20:Fs w g2 (mRow m.msg (.slice none 0 0))) :
  Calls Tryz.prog 86 #[ov, .func (.func 68) #[] #[.pointer (some ⟨g1,0,none⟩), .pointer (some ⟨g2,0,none⟩)]] w fun e w' => ∃ r:Int,e = .returned (.int .i64 r)∧decide (0≤r) = (c.out.any fun a=>decide (a.m = fil c m))∧Ext w w':=by
 refine z2rz ?_
 have hr:=hide_ h.out.acts
 have hmax:=h.out.acts.len_le
 unfold maxLen at hmax
 have hT:=hide_ h
 have f1:=hide_ f10
 have f2:=hide_ f20
 obtain ⟨l,hl0⟩:∃ l,c.out = l:=⟨_,rfl⟩
 rw [hl0] at hr hmax ⊢
 obtain ⟨qf,hqf⟩:∃ qf:AcV→Bool,(fun a=>decide (a.m = fil c m)) = qf:=⟨_,rfl⟩
 have hq:=hide_ (show ∀ a,decide (a.m = fil c m) = qf a from fun a=>by rw [← hqf])
 rw [hqf]
 clear h f10 f20 hl0 hqf
 go_enter Tryz.func86,Tryz.ntmps86
 go_wp2_with ((first | ((with_reducible refine at_bi ?_);refine w_rlen Tryz.elAct _ rfl rfl rfl hr.out ?_) | fail) <;> (try refine z0z ?_))
 go_loopw [8] (fun i wr => ∃ k:Nat,i = .int .i64 k∧k≤l.length∧Hid (∀ y∈l.take k,qf y = false)∧Ext w wr) (fun i _=>l.length - (RowKit.intOf i).toNat)
 case atStart=>exact ⟨0,rfl,Nat.zero_le _,hide_ (by simp),Ext.refl _⟩
 case round =>
  obtain ⟨k,rfl,hk,hnt,hX⟩:=hrel
  by_cases hge:l.length≤k
  ·obtain rfl:k = l.length:=by omega
   have t2:decide (l.length < l.length) = false:=by simp
   rw [List.take_length] at hnt
   clear hge
   go_wp2
   go_ret
   exact Keep.intro ⟨-1,rfl,by rw [show l.any qf = false from by rw [List.any_eq_false];intro x hx;rw [hnt.out x hx];simp];rfl,hX⟩
  have hlt:k < l.length:=by omega
  have t2:decide (k < l.length) = true:=by simpa using hlt
  obtain ⟨d,hd0⟩:∃ d,l[k]? = some d:=⟨_,List.getElem?_eq_getElem hlt⟩
  have e0:l.take (k + 1) = l.take k ++ [d]:=by rw [List.take_add_one,hd0];rfl
  have hlt':=hide_ hlt
  have hkb:k < 9223372036854775807:=by omega
  have hd:=hide_ hd0
  cases q1:qf d
  ·have hnt2:=hide_ (show ∀ y∈l.take (k + 1),qf y = false from by
    rw [e0]
    intro y hy
    rcases List.mem_append.1 hy with hy | hy
    ·exact hnt.out y hy
    ·simp only [List.mem_singleton] at hy;subst hy;exact q1)
   have q1':=hide_ ((hq.out d).trans q1)
   clear hge hlt hd0 e0 hnt q1
   go_wp2_with ((first | (go_at_call 68;refine (once1_turn (a:=d) (hT.out.ext hX) (f1.out.ext hX) (f2.out.ext hX) q1'.out).mono ?_;rintro e w4 ⟨rfl,hx⟩;replace hX:=hX.trans hx;clear hx) | ((with_reducible refine at_idx ?_);refine w_acidx Tryz.elAct _ _ k rfl rfl rfl rfl hr.out hX hd.out ?_;intro pa hrow;replace hrow:=hide_ hrow) | refine z3kz ?_ | fail) <;> (try refine z0z ?_))
   go_roundw
   case rel=>exact ⟨k + 1,by go_num,hlt'.out,hnt2,hX⟩
   case measure=>have:=hlt'.out;simp [RowKit.intOf];omega
  ·have q1':=hide_ ((hq.out d).trans q1)
   have hany:=hide_ (show l.any qf = true from List.any_eq_true.2 ⟨d,List.mem_of_getElem? hd0,q1⟩)
   clear hge hlt hd0 e0 q1
   go_wp2_with ((first | (go_at_call 68;refine (once1_turn (a:=d) (hT.out.ext hX) (f1.out.ext hX) (f2.out.ext hX) q1'.out).mono ?_;rintro e w4 ⟨rfl,hx⟩;replace hX:=hX.trans hx;clear hx) | ((with_reducible refine at_idx ?_);refine w_acidx Tryz.elAct _ _ k rfl rfl rfl rfl hr.out hX hd.out ?_;intro pa hrow;replace hrow:=hide_ hrow) | refine z3kz ?_ | fail) <;> (try refine z0z ?_))
   go_ret
   exact Keep.intro ⟨(k:Nat),rfl,by rw [hany.out];exact decide_eq_true (by omega),hX⟩
theorem ContainsAct_turn {S:Nat→Nat} {w:World} {tb p q gp gs:Nat} {kv ov sv dv:Value} {kn:List Int} {c:CoD} {m:MsV} {g1 g2:Nat} (h:TrnW S w tb p kv ov sv dv q gp gs kn c) (f10:Fs w g1 [.pointer (some ⟨tb,0,none⟩)]) (f20:Fs w g2 (mRow m.msg (.slice none 0 0))) {r:Bool} (hr0:(c.out.any fun a=>decide (a.m = fil c m)) = r) :
  Calls Tryz.prog 70 #[ov, .func (.func 68) #[] #[.pointer (some ⟨g1,0,none⟩), .pointer (some ⟨g2,0,none⟩)]] w fun e w'=>e = .returned (.bool r)∧Ext w w':=by
 refine z2rz ?_
 have hT:=hide_ h
 have f1:=hide_ f10
 have f2:=hide_ f20
 have hr:=hide_ hr0
 have hX:=Ext.refl w
 clear h f10 f20 hr0
 go_enter Tryz.func70,Tryz.ntmps70
 go_wp2_with (first | (go_at_call 86;refine (IndexAct_turn (hT.out.ext hX) (f1.out.ext hX) (f2.out.ext hX)).mono ?_;rintro e w4 ⟨r0,rfl,hF,hx⟩;have hqr:decide (0≤r0) = r:=hF.trans hr.out;clear hF;replace hX:=hX.trans hx;clear hx) | fail)
 go_ret
 exact z4pz
def CoD.once (c:CoD) (m:MsV):CoD:=if (c.out.any fun a=>decide (a.m = m)) = true then c else c.send m
theorem sendOnce_turn {S:Nat→Nat} {w:World} {tb p q gp gs:Nat} {kv ov sv dv:Value} {kn:List Int} {c:CoD} {m:MsV} (h:TrnW S w tb p kv ov sv dv q gp gs kn c) (hlen0:(c.out.length + 1) * 128≤140737488355328) :
  Calls Tryz.prog 54 #[.pointer (some ⟨tb,0,none⟩), .agg (mRow m.msg (.slice none 0 0)).toArray] w fun e w'=>e = .returned (.tuple #[])∧∃ S' ov',TrnW S' w' tb p kv ov' sv dv q gp gs kn (c.once (fil c m))∧Stp 1 8 S S' w w':=by
 refine z2rz ?_
 have hT:=hide_ h
 have hlen:=hide_ hlen0
 have hX:=Ext.refl w
 cases hq:(c.out.any fun a=>decide (a.m = fil c m))
 all_goals
  have hr:=hide_ hq
  have ho:=hide_ (show c.once (fil c m) = _ from by unfold CoD.once;rw [hq])
  simp only [Bool.false_eq_true,if_false,if_true] at ho
  clear h hlen0 hq
 ·
  go_enter Tryz.func54,Tryz.ntmps54
  go_wp2_with ((first | ((with_reducible refine at_box ?_);refine w_box _ [.pointer (some ⟨tb,0,none⟩)] rfl rfl rfl rfl ?_;intro g1 w1 hg1 hx f1;replace hX:=hX.trans hx;clear hx) | (refine z4kz ?_;intro g2 w2 hg2 hx f2;replace f1:=f1.ext hx;replace hX:=hX.trans hx;clear hx) | (go_at_call 70;refine (ContainsAct_turn (hT.out.ext hX) f1 f2 hr.out).mono ?_;rintro e w4 ⟨rfl,hx⟩;replace f1:=f1.ext hx;replace f2:=f2.ext hx;replace hX:=hX.trans hx;clear hx) | (go_at_call 51;refine (send_turn (m0:=m) (hT.out.ext hX) hlen.out).mono ?_;rintro e w5 ⟨rfl,S5,ov5,hT5,hs5⟩) | refine z3cz ?_ | fail) <;> (try refine z0z ?_))
  go_end0
  exact Keep.intro ⟨rfl,S5,ov5,by rw [ho.out];exact hT5,(Stp.ofExt hX hT.out.bnd).trans hs5⟩
 ·
  go_enter Tryz.func54,Tryz.ntmps54
  go_wp2_with ((first | ((with_reducible refine at_box ?_);refine w_box _ [.pointer (some ⟨tb,0,none⟩)] rfl rfl rfl rfl ?_;intro g1 w1 hg1 hx f1;replace hX:=hX.trans hx;clear hx) | (refine z4kz ?_;intro g2 w2 hg2 hx f2;replace f1:=f1.ext hx;replace hX:=hX.trans hx;clear hx) | (go_at_call 70;refine (ContainsAct_turn (hT.out.ext hX) f1 f2 hr.out).mono ?_;rintro e w4 ⟨rfl,hx⟩;replace f1:=f1.ext hx;replace f2:=f2.ext hx;replace hX:=hX.trans hx;clear hx) | refine z3cz ?_ | fail) <;> (try refine z0z ?_))
  go_end0
  exact Keep.intro ⟨rfl,S,ov,by rw [ho.out];exact hT.out.ext hX,Stp.ofExt hX hT.out.bnd⟩
theorem proposal_any {w:World} {x u:Int} :
  Calls Tryz.prog 52 #[.agg #[.int .i64 x, .int .i64 u]] w fun e w'=>e = .returned (.agg (mRow (⟨3,0,0,0,x,u⟩:MsV).msg (.slice none 0 0)).toArray)∧Ext w w':=by
 refine z2rz ?_
 have hX:=Ext.refl w
 go_enter Tryz.func52,Tryz.ntmps52
 go_wp2_with ((first | (refine z3iz ?_;intro g3 w1 hg3 hx f3;replace hX:=hX.trans hx;clear hx) | ((with_reducible refine at_alloc ?_);refine w_allocN Tryz.stMsg rfl rfl ?_;intro g4 w2 hg40 hx f4;have hg4:=hide_ (Nat.le_trans hX.size hg40);clear hg40;replace f3:=f3.ext hx;replace hX:=hX.trans hx;clear hx) | refine z19z ?_ | refine zrz ?_ | (refine z4rz ?_;refine w_mbuild (mRow (⟨3,0,0,0,x,u⟩:MsV).msg (.slice none 0 0)) rfl rfl rfl (by intro p hp;simp at hp;rcases hp with rfl|rfl|rfl <;> exact ⟨by decide,rfl⟩) ?_) | ((with_reducible refine at_store ?_);refine w_astoreN Tryz.stMsg (us:=mRow (⟨3,0,0,0,x,u⟩:MsV).msg (.slice none 0 0)) _ _ rfl rfl rfl rfl rfl f4 rfl rfl (m_one rfl) ?_;intro w9 hm9 f9;replace f4:=f9;replace hX:=hm9.after hX (fun j e=>e ▸ hg4.out);clear hm9 f9) | fail) <;> (try refine z0z ?_))
 exact bodyPost_ret (ag_one Tryz.agMsg rfl rfl f4 rfl) rfl (Keep.intro ⟨rfl,hX⟩)
theorem isKnown_turn {S:Nat→Nat} {w:World} {tb p q gp gs:Nat} {kv ov sv dv:Value} {kn:List Int} {c:CoD} {x:Int} (h:TrnW S w tb p kv ov sv dv q gp gs kn c) {r:Bool} (hr0:CoD.knows kn x = r) :
  Calls Tryz.prog 61 #[.pointer (some ⟨tb,0,none⟩), .int .i64 x] w fun e w'=>e = .returned (.bool r)∧Ext w w':=by
 refine z2rz ?_
 have hT:=hide_ h
 have hX:=Ext.refl w
 by_cases h1:x = 0
 ·have t1:(x == 0) = true:=by simpa using h1
  have hr:=hide_ (show r = true from by rw [← hr0];exact decide_eq_true (.inl h1))
  clear h h1 hr0
  go_enter Tryz.func61,Tryz.ntmps61
  go_wp2_with (first | go_big_skip | fail)
  go_ret
  exact Keep.intro ⟨by rw [hr.out];rfl,hX⟩
 ·have t1:(x == 0) = false:=by simpa using h1
  have hr:=hide_ (show decide (x∈kn) = r from by rw [← hr0];unfold CoD.knows;simp [h1])
  clear h h1 hr0
  go_enter Tryz.func61,Tryz.ntmps61
  go_wp2_with ((first | go_big_skip | (go_at_call 82;refine (Contains_any (hT.out.ext hX).knw).mono ?_;rintro e w2 ⟨rfl,hx⟩;rw [hr.out];replace hX:=hX.trans hx;clear hx) | ((with_reducible refine at_field ?_);(try refine w_yes _ _ _ rfl rfl rfl ?_);refine w_fieldB (t:=77) (i:=1) (off:=1) (by kernel_rfl) rfl _ _ rfl rfl rfl ?_) | ((with_reducible refine at_load ?_);(try refine w_yes _ _ _ rfl rfl rfl ?_);refine w_fload _ rfl rfl rfl (hT.out.ext hX).turn rfl (agg_of (by kernel_rfl)) ?_) | fail) <;> (try refine z0z ?_))
  go_ret
  exact z4pz
theorem cast_turn {S:Nat→Nat} {w:World} {tb p q gp gs:Nat} {kv ov sv dv:Value} {kn:List Int} {c:CoD} {k x:Int} (h:TrnW S w tb p kv ov sv dv q gp gs kn c) (hk0:k = 4∨k = 5) (hv0:In64 c.view) (hx0:In64 x) (hlen0:(c.out.length + 1) * 128≤140737488355328) :
  Calls Tryz.prog 53 #[.pointer (some ⟨tb,0,none⟩), .int .i64 k, .int .i64 x] w fun e w'=>e = .returned (.tuple #[])∧∃ S' ov',TrnW S' w' tb p kv ov' sv dv q gp gs kn (c.cast k x)∧Stp 1 8 S S' w w':=by
 refine z2rz ?_
 have hT:=hide_ h
 have hlen:=hide_ hlen0
 have hk:=hide_ (show In64 k from by unfold In64;omega)
 have hv:=hide_ hv0
 have hx64:=hide_ hx0
 have hme:=hide_ (show c.me≤1000000 from by have:=h.cor.me;have:=h.cor.st.2.1;omega)
 obtain ⟨r,hr0⟩:∃ r,vok c.t.length c.T k c.view c.me x = r:=⟨_,rfl⟩
 have hok:=hide_ (show addOk c.t.length c.T k c.view (c.me:Nat) x = r from by rw [(addT_vadd _ _ _ _ _ _).2];exact hr0)
 have hT1e:addT c.t.length c.T k c.view (c.me:Nat) x = vadd c.t.length c.T k c.view c.me x:=(addT_vadd _ _ _ _ _ _).1
 cases r with
 | false =>
  have hc:=hide_ (show c.cast k x = { c with T:=addT c.t.length c.T k c.view (c.me:Nat) x } from by
   unfold CoD.cast
   rw [if_neg (by rw [hr0];simp),hT1e,vadd_no hr0])
  clear h hk0 hv0 hx0 hlen0 hr0 hT1e
  go_enter Tryz.func53,Tryz.ntmps53
  go_wp2
  refine zmz ?_;intro wd hxd;have HT:=hT.out.ext hxd;have FT:=HT.turn;have F0:=HT.cor.obj
  refine z1vz ?_
  intro wN hxN
  refine z4oz ?_
  refine (TAdd_any (HT.cor.ext hxN).tal (by omega) hk.out hv.out (In64.nat hme.out) hx64.out).mono ?_;rintro e w4 ⟨X4,rfl,ht4,hu4,_⟩;refine ⟨_,rfl, ?_⟩
  refine z0z ?_
  rw [hok.out]
  show Ph Tryz.prog _ _ 26 _ _
  refine Ph.rest 26 0 (by kernel_rfl) ?_
  intro wM hxM
  refine zuz ?_
  obtain ⟨S1,hC1,hs1⟩:=(HT.cor.ext hxN).vote hu4 ht4
  have hT1:=hide_ (((HT.ext hxN).core hs1 hC1 rfl).ext hxM)
  have hS:=hide_ (((Stp.ofExt (lo:=1) (hi:=8) (hxd.trans hxN) hT.out.bnd).trans (hs1.wide (by omega) (by omega))).trans (Stp.ofExt hxM hC1.bnd))
  clear hC1 hs1 hu4 ht4 hxM hxN hxd HT FT F0
  go_wp2
  go_end0
  exact Keep.intro ⟨rfl,S1,ov,by rw [hc.out];exact hT1.out,hS.out⟩
 | true =>
  have hc:=hide_ (show c.cast k x = ({ c with T:=addT c.t.length c.T k c.view (c.me:Nat) x }:CoD).send (fil { c with T:=addT c.t.length c.T k c.view (c.me:Nat) x } ⟨k,0,0,0,x,0⟩) from by
   unfold CoD.cast
   rw [if_pos hr0,hT1e]
   unfold CoD.send fil CoD.vote
   simp only
   rw [if_neg (by omega)]
   rfl)
  clear h hk0 hv0 hx0 hlen0 hr0 hT1e
  go_enter Tryz.func53,Tryz.ntmps53
  go_wp2
  refine zmz ?_;intro wd hxd;have HT:=hT.out.ext hxd;have FT:=HT.turn;have F0:=HT.cor.obj
  refine z1vz ?_
  intro wN hxN
  refine z4oz ?_
  refine (TAdd_any (HT.cor.ext hxN).tal (by omega) hk.out hv.out (In64.nat hme.out) hx64.out).mono ?_;rintro e w4 ⟨X4,rfl,ht4,hu4,_⟩;refine ⟨_,rfl, ?_⟩
  refine z0z ?_
  rw [hok.out]
  show Ph Tryz.prog _ _ 26 _ _
  refine Ph.rest 26 0 (by kernel_rfl) ?_
  intro wM hxM
  refine zuz ?_
  obtain ⟨S1,hC1,hs1⟩:=(HT.cor.ext hxN).vote hu4 ht4
  have hT1:=hide_ (((HT.ext hxN).core hs1 hC1 rfl).ext hxM)
  have hS:=hide_ (((Stp.ofExt (lo:=1) (hi:=8) (hxd.trans hxN) hT.out.bnd).trans (hs1.wide (by omega) (by omega))).trans (Stp.ofExt hxM hC1.bnd))
  clear hC1 hs1 hu4 ht4 hxM hxN hxd HT FT F0
  go_wp2_with ((first | (refine z4rz ?_;refine w_mbuild (mRow (⟨k,0,0,0,x,0⟩:MsV).msg (.slice none 0 0)) rfl rfl rfl (by intro p hp;simp at hp;rcases hp with rfl|rfl <;> exact ⟨by decide,rfl⟩) ?_) | (go_at_call 51;refine (send_turn (m0:=⟨k,0,0,0,x,0⟩) hT1.out hlen.out).mono ?_;rintro e w5 ⟨rfl,S5,ov5,hT5,hs5⟩) | fail) <;> (try refine z0z ?_))
  go_end0
  exact Keep.intro ⟨rfl,S5,ov5,by rw [hc.out];exact hT5,hS.out.trans hs5⟩
theorem goOn_turn {S:Nat→Nat} {w:World} {tb p q gp gs:Nat} {kv ov sv dv:Value} {kn:List Int} {c:CoD} {s:Int} (h:TrnW S w tb p kv ov sv dv q gp gs kn c) (hv0:c.view≤9223372036854775807) :
  Calls Tryz.prog 50 #[.pointer (some ⟨tb,0,none⟩), .int .i64 s] w fun e w'=>e = .returned (.tuple #[])∧TrnW S w' tb p kv ov sv dv q gp gs kn (c.to s)∧Stp 1 8 S S w w':=by
 refine z2rz ?_
 have hT:=hide_ h
 have hv:=hide_ hv0
 clear h hv0
 go_enter Tryz.func50,Tryz.ntmps50
 go_wp2_with ((first | ((with_reducible refine at_store ?_);refine w_fstore _ _ (u := .int .i64 s) rfl rfl rfl rfl rfl hT.out.cor.obj (by simp [coRow]) rfl rfl (by kernel_rfl) ?_;intro w1 hm1 f1;have hC1:=hT.out.cor.cell (d:={ c with step:=s }) hm1 f1 ⟨rfl,rfl,rfl,rfl,rfl,rfl⟩ hT.out.cor.lft;have hs1:=hT.out.cor.stpCell hm1;have hT1:=hide_ (hT.out.core hs1 hC1 rfl)) | (go_at_call 38;refine (wait_core hT1.out.cor hv.out).mono ?_;rintro e w2 ⟨rfl,hC2,hs2⟩) | refine z5iz ?_ | ((with_reducible refine at_load ?_);(try refine w_yes _ _ _ rfl rfl rfl ?_);refine w_fload _ rfl rfl rfl hT1.out.turn rfl (agg_of (by kernel_rfl)) ?_) | refine zqz ?_ | fail) <;> (try refine z0z ?_))
 go_end0
 exact Keep.intro ⟨rfl,hT1.out.core hs2 hC2 rfl,(hs1.trans hs2).wide (by omega) (by omega)⟩
theorem zeroP (w:World):(zeroValue 67).run Tryz.prog w = .ok (prV (0,0)) w:=by kernel_rfl
section
variable {ops:Array Oper} {rest:List Oper} {o:Oper} {a:Act} {Q:Exit→Act→World→Prop} {w:World} {ρ:Operand→Value}
theorem runs_plook (x y:Operand) {g n:Nat} {D:DataW Value} {f:Int→Option (Int × Int)} {j rx ru:Int} {ok:Bool} (ho:o.op = Op.lookup 64 x y true) (hx : ρ x = .map (some g)) (hy : ρ y = .int .i64 j)
  (hj:In64 j) (h:w.ownsMap Tryz.prog 3 tok g n D) (hD:PrM D f) (hr:(f j).getD (0,0) = (rx,ru)∧(f j).isSome = ok):Runs Tryz.prog o ρ w (.tuple #[.agg #[.int .i64 rx, .int .i64 ru], .bool ok]):=by
 have hkey:keyOf Tryz.prog 3 (.int .i64 j) = some (.int .i64 j):=Maps.keyOf_int_mk Tryz.underlying3 hj.wf
 obtain ⟨u,ps,h3,h4⟩:=h.look_ok Tryz.keyI Tryz.underlying64 (zeroP w) (zd := .held (prV (0,0))) (zp:=[]) rfl hkey
 rw [(hD.2.1 j hj).2,hr.1] at h4
 obtain ⟨rfl,_⟩:u = .agg #[.int .i64 rx, .int .i64 ru]∧ps = []:=by simpa [tok,prV] using h4
 rw [(hD.2.1 j hj).1,hr.2] at h3
 unfold Runs execOp
 simp [ho,hx,hy,h3]
theorem w_plook (x y:Operand) {g n:Nat} {D:DataW Value} {f:Int→Option (Int × Int)} {j rx ru:Int} {ok:Bool} (hgd:o.guard = none) (ho:o.op = Op.lookup 64 x y true) (hx:a.eval x = .map (some g)) (hy:a.eval y = .int .i64 j)
  (hj:In64 j) (h:w.ownsMap Tryz.prog 3 tok g n D) (hD:PrM D f) (hr:(f j).getD (0,0) = (rx,ru)∧(f j).isSome = ok) (kk:wpList Tryz.prog ops Q rest (a.put o.dst (.tuple #[.agg #[.int .i64 rx, .int .i64 ru], .bool ok])) w):wpList Tryz.prog ops Q (o :: rest) a w :=
 wpList_runs hgd (runs_plook x y ho hx hy hj h hD hr) kk
end
theorem enter_turn {S:Nat→Nat} {w:World} {tb p q gp gs:Nat} {kv ov sv dv:Value} {kn:List Int} {c:CoD} {v:Int} (h:TrnW S w tb p kv ov sv dv q gp gs kn c) (hv0:0≤v∧v≤1000) (hvw : -1≤c.vw) (hlen0:(c.out.length + 1) * 128≤140737488355328) :
  Calls Tryz.prog 31 #[.pointer (some ⟨tb,0,none⟩), .int .i64 v] w fun e w'=>e = .returned (.tuple #[])∧∃ S' ov',TrnW S' w' tb p kv ov' sv dv q gp gs kn (c.enter v)∧Stp 1 8 S S' w w':=by
 refine z2rz ?_
 have hT:=hide_ h
 have hlen:=hide_ hlen0
 have hvr:=hide_ hv0
 have hv64:=hide_ (show In64 v from by unfold In64;omega)
 have hvI:=hide_ (show v≤9223372036854775807 from by omega)
 obtain ⟨d,hd0⟩:∃ d,({ c with view:=v }:CoD).to 1 = d:=⟨_,rfl⟩
 have hd:=hide_ hd0
 obtain ⟨ok,hok⟩:∃ ok,(d.prop v).isSome = ok:=⟨_,rfl⟩
 obtain ⟨⟨rx,ru⟩,hrx⟩:∃ r,(d.prop v).getD (0,0) = r:=⟨_,rfl⟩
 have hpr:=hide_ (show (d.prop v).getD (0,0) = (rx,ru)∧(d.prop v).isSome = ok from ⟨hrx,hok⟩)
 obtain ⟨l,hl0⟩:∃ l,d.leader v = l:=⟨_,rfl⟩
 have hld:=hide_ hl0
 have hent:c.enter v = if d.prop v = none∧d.leader v = d.me then (d.setProp v d.prop1).send (d.offer v d.prop1) else d:=by subst hd0;rfl
 have hdl:=hide_ (show (d.out.length + 1) * 128≤140737488355328 from by subst hd0;exact hlen0)
 have hdv:=hide_ (show -1≤d.vw from by subst hd0;exact hvw)
 have hview:=hide_ (show d.view = v from by subst hd0;rfl)
 clear hd0 hvw hlen0
 cases ok with
 | true =>
  have hfin:=hide_ (show c.enter v = d from by rw [hent,if_neg fun q=>by rw [q.1] at hok;cases hok])
  clear h hv0 hok hrx hl0 hent
  go_enter Tryz.func31,Tryz.ntmps31
  go_wp2_with ((first | (refine z3dz ?_;intro w1 hm1 f1;have hC1:=hT.out.cor.cell (d:={ c with view:=v }) hm1 f1 ⟨rfl,rfl,rfl,rfl,rfl,rfl⟩ hT.out.cor.lft;have hs1:=hT.out.cor.stpCell hm1;have hTv:=hide_ (hT.out.core hs1 hC1 rfl)) | (go_at_call 50;refine (goOn_turn hTv.out hvI.out).mono ?_;rintro e w2 ⟨rfl,hT2,hs2⟩;rw [hd.out] at hT2;have hT1:=hide_ hT2;have hS1:=hide_ ((hs1.wide (by omega) (by omega)).trans hs2);have hX:=Ext.refl w2;obtain ⟨n,D,hpn0,hpo0,hpm0⟩:=hT2.cor.prp;have hpn:=hide_ (Nat.le_trans hpn0 (by omega:1001≤1000000));have hpo:=hide_ hpo0;have hpm:=hide_ hpm0;clear hpn0 hpo0 hpm0 hT2 hs2) | refine z3xz ?_ | (refine z3uz ?_;simp only [List.getElem_toArray,List.getElem_cons_succ,List.getElem_cons_zero]) | (refine z3pz ?_;intro g4 w4 hg40 hx f4;have hg4:=hide_ (Nat.le_trans hX.size hg40);clear hg40;replace hX:=hX.trans hx;clear hx) | (refine z3ez ?_;refine w_astoreN Tryz.stPrep (us:=[.int .i64 rx, .int .i64 ru]) _ _ rfl rfl rfl rfl rfl f4 rfl rfl (by intro u hu;simp at hu;rcases hu with rfl|rfl <;> rfl) ?_;intro w5 hm5 f5;replace hX:=hm5.after hX (fun j e=>e ▸ hg4.out);clear hm5 f4) | refine zxz ?_ | refine zqz ?_ | fail) <;> (try refine z0z ?_))
  refine zmz ?_;intro wd hxd;have HT:=hT1.out.ext (hX.trans hxd);have FT:=HT.turn;have F0:=HT.cor.obj
  refine Ph.rest 0 17 (by kernel_rfl) ?_
  refine LinL.st [(5,none)] rfl (opmv (.bool true)) ?_
  refine LinL.st [(30,some 0)] rfl (opcp (.val (.bool true))) ?_
  refine LinL.step (s := .val undef) [(0,none),(31,some 0)] rfl (by kernel_rfl) (op_no (reads:=[(0,none)]) 1 31 0 false rfl rfl rfl) ?_
  refine LinL.step (s := .val undef) [(32,some 0),(31,some 1)] rfl (by kernel_rfl) (op_no (reads:=[(32,some 0)]) 1 31 1 false rfl rfl rfl) ?_
  refine LinL.step (s := .val undef) [(33,some 0),(31,some 2)] rfl (by kernel_rfl) (op_no (reads:=[(33,some 0)]) 1 31 2 false rfl rfl rfl) ?_
  refine LinL.step (s := .val undef) [(34,some 0),(31,some 3)] rfl (by kernel_rfl) (op_no (reads:=[(34,some 0)]) 1 31 3 false rfl rfl rfl) ?_
  refine LinL.step (s := .val undef) [(1,none),(31,some 4)] rfl (by kernel_rfl) (op_no (reads:=[(1,none)]) 1 31 4 false rfl rfl rfl) ?_
  refine LinL.step (s := .val undef) [(35,some 1),(36,some 0),(31,some 5)] rfl (by kernel_rfl) (op_no (reads:=[(35,some 1),(36,some 0)]) 1 31 5 false rfl rfl rfl) ?_
  refine LinL.step (s := .val undef) [(0,none),(31,some 6)] rfl (by kernel_rfl) (op_no (reads:=[(0,none)]) 1 31 6 false rfl rfl rfl) ?_
  refine LinL.step (s := .val undef) [(38,some 0),(31,some 7)] rfl (by kernel_rfl) (op_no (reads:=[(38,some 0)]) 1 31 7 false rfl rfl rfl) ?_
  refine LinL.step (s := .val undef) [(39,some 0),(31,some 8)] rfl (by kernel_rfl) (op_no (reads:=[(39,some 0)]) 1 31 8 false rfl rfl rfl) ?_
  refine LinL.step (s := .val undef) [(40,some 0),(31,some 9)] rfl (by kernel_rfl) (op_no (reads:=[(40,some 0)]) 1 31 9 false rfl rfl rfl) ?_
  refine LinL.step (s := .val undef) [(41,some 0),(31,some 10)] rfl (by kernel_rfl) (op_no (reads:=[(41,some 0)]) 1 31 10 false rfl rfl rfl) ?_
  refine LinL.step (s := .val undef) [(42,some 0),(31,some 11)] rfl (by kernel_rfl) (op_no (reads:=[(42,some 0)]) 1 31 11 false rfl rfl rfl) ?_
  refine LinL.step (s := .val undef) [(43,some 0),(31,some 12)] rfl (by kernel_rfl) (op_no (reads:=[(43,some 0)]) 1 31 12 false rfl rfl rfl) ?_
  refine LinL.step (s := .val undef) [(37,some 7),(44,some 0),(31,some 13)] rfl (by kernel_rfl) (op_no (reads:=[(37,some 7),(44,some 0)]) 1 31 13 false rfl rfl rfl) ?_
  refine LinL.step (s:=(.val (.bool true))) [(31,some 14),(45,some 0)] rfl (by kernel_rfl) (op_runs rfl fun σ w' hx hg=>⟨_,runs_pick_t (ρ := σ.eval) (w:=w') (.tmp 31) (.const (.bool true)) (.tmp 45) rfl hg.1 rfl,rfl⟩) ?_
  intro wN hxN
  refine z15z ?_
  replace hX:=hX.trans (hxd.trans hxN);clear hxd hxN HT FT F0
  go_wp2
  go_end0
  exact Keep.intro ⟨rfl,S,ov,by rw [hfin.out];exact hT1.out.ext hX,hS1.out.trans (Stp.ofExt hX hT1.out.bnd)⟩
 | false =>
  by_cases hlm:l = (d.me:Int)
  rotate_left
  ·have hfin:=hide_ (show c.enter v = d from by rw [hent,if_neg fun q=>hlm (by rw [← hl0];exact q.2)])
   have tl:(l != (d.me:Int)) = true:=by simpa using hlm
   clear h hv0 hok hrx hl0 hent hlm
   go_enter Tryz.func31,Tryz.ntmps31
   go_wp2_with ((first | (refine z3dz ?_;intro w1 hm1 f1;have hC1:=hT.out.cor.cell (d:={ c with view:=v }) hm1 f1 ⟨rfl,rfl,rfl,rfl,rfl,rfl⟩ hT.out.cor.lft;have hs1:=hT.out.cor.stpCell hm1;have hTv:=hide_ (hT.out.core hs1 hC1 rfl)) | (go_at_call 50;refine (goOn_turn hTv.out hvI.out).mono ?_;rintro e w2 ⟨rfl,hT2,hs2⟩;rw [hd.out] at hT2;have hT1:=hide_ hT2;have hS1:=hide_ ((hs1.wide (by omega) (by omega)).trans hs2);have hX:=Ext.refl w2;obtain ⟨n,D,hpn0,hpo0,hpm0⟩:=hT2.cor.prp;have hpn:=hide_ (Nat.le_trans hpn0 (by omega:1001≤1000000));have hpo:=hide_ hpo0;have hpm:=hide_ hpm0;clear hpn0 hpo0 hpm0 hT2 hs2) | refine z3xz ?_ | (refine z3uz ?_;simp only [List.getElem_toArray,List.getElem_cons_succ,List.getElem_cons_zero]) | (refine z3pz ?_;intro g4 w4 hg40 hx f4;have hg4:=hide_ (Nat.le_trans hX.size hg40);clear hg40;replace hX:=hX.trans hx;clear hx) | (refine z3ez ?_;refine w_astoreN Tryz.stPrep (us:=[.int .i64 rx, .int .i64 ru]) _ _ rfl rfl rfl rfl rfl f4 rfl rfl (by intro u hu;simp at hu;rcases hu with rfl|rfl <;> rfl) ?_;intro w5 hm5 f5;replace hX:=hm5.after hX (fun j e=>e ▸ hg4.out);clear hm5 f4) | refine zxz ?_ | refine zqz ?_ | fail) <;> (try refine z0z ?_))
   refine zmz ?_;intro wd hxd;have HT:=hT1.out.ext (hX.trans hxd);have FT:=HT.turn;have F0:=HT.cor.obj
   refine zcz ?_
   refine LinL.step (s:=(.val (.bool true))) [(37,some 7),(44,some 0),(31,some 13)] rfl (by kernel_rfl) (op_yes (reads:=[(37,some 7),(44,some 0)]) 1 31 13 false rfl rfl rfl (op_runs rfl fun σ w' hx hg=>⟨(.bool true),by have h37 : σ.tmps.getD 37 undef = .int .i64 l:=hg.1;have h44 : σ.tmps.getD 44 undef = .int .i64 (d.me:Nat):=hg.2.1;unfold Runs execOp;simp [Act.eval,h37,h44,go_sem,tl],rfl⟩)) ?_
   refine LinL.step (s:=(.val (.bool true))) [(31,some 14),(45,some 0)] rfl (by kernel_rfl) (op_runs rfl fun σ w' hx hg=>⟨_,runs_pick_f (ρ := σ.eval) (w:=w') (.tmp 31) (.const (.bool true)) (.tmp 45) rfl hg.1 hg.2.1,rfl⟩) ?_
   intro wN hxN
   refine z15z ?_
   replace hX:=hX.trans (hxd.trans hxN);clear hxd hxN HT FT F0
   go_wp2
   go_end0
   exact Keep.intro ⟨rfl,S,ov,by rw [hfin.out];exact hT1.out.ext hX,hS1.out.trans (Stp.ofExt hX hT1.out.bnd)⟩
  have hfin:=hide_ (show c.enter v = (d.setProp v d.prop1).send (d.offer v d.prop1) from by rw [hent,if_pos ⟨Option.isNone_iff_eq_none.1 (Option.isSome_eq_false_iff.1 hok),hl0.trans hlm⟩])
  have tl:(l != (d.me:Int)) = false:=by simpa using hlm
  obtain ⟨⟨px,pu⟩,hp0⟩:∃ r,d.prop1 = r:=⟨_,rfl⟩
  have hp1:=hide_ hp0
  rw [hp0] at hfin
  have hoff:=hide_ (show d.offer v (px,pu) = fil (d.setProp v (px,pu)) ⟨3,0,0,0,px,pu⟩ from by
   unfold CoD.offer fil CoD.setProp CoD.idx
   simp only
   rw [if_neg (by omega),hview.out])
  clear h hv0 hok hrx hl0 hent hlm
  by_cases hno:d.vw = -1
  ·have tn:(d.vw == -1) = true:=by simp [hno]
   have he:=hide_ (show d.tip = px ∧ -1 = pu from by
    have h1:=hp1.out
    unfold CoD.prop1 at h1
    rw [if_neg (by omega)] at h1
    injection h1 with h1 h2
    exact ⟨h1,h2⟩)
   have tnu:=hide_ (show d.vw = pu from hno.trans he.out.2);clear hp0 hno
   go_enter Tryz.func31,Tryz.ntmps31
   go_wp2_with ((first | (refine z3dz ?_;intro w1 hm1 f1;have hC1:=hT.out.cor.cell (d:={ c with view:=v }) hm1 f1 ⟨rfl,rfl,rfl,rfl,rfl,rfl⟩ hT.out.cor.lft;have hs1:=hT.out.cor.stpCell hm1;have hTv:=hide_ (hT.out.core hs1 hC1 rfl)) | (go_at_call 50;refine (goOn_turn hTv.out hvI.out).mono ?_;rintro e w2 ⟨rfl,hT2,hs2⟩;rw [hd.out] at hT2;have hT1:=hide_ hT2;have hS1:=hide_ ((hs1.wide (by omega) (by omega)).trans hs2);have hX:=Ext.refl w2;obtain ⟨n,D,hpn0,hpo0,hpm0⟩:=hT2.cor.prp;have hpn:=hide_ (Nat.le_trans hpn0 (by omega:1001≤1000000));have hpo:=hide_ hpo0;have hpm:=hide_ hpm0;clear hpn0 hpo0 hpm0 hT2 hs2) | refine z3xz ?_ | (refine z3uz ?_;simp only [List.getElem_toArray,List.getElem_cons_succ,List.getElem_cons_zero]) | (refine z3pz ?_;intro g4 w4 hg40 hx f4;have hg4:=hide_ (Nat.le_trans hX.size hg40);clear hg40;replace hX:=hX.trans hx;clear hx) | (refine z3ez ?_;refine w_astoreN Tryz.stPrep (us:=[.int .i64 rx, .int .i64 ru]) _ _ rfl rfl rfl rfl rfl f4 rfl rfl (by intro u hu;simp at hu;rcases hu with rfl|rfl <;> rfl) ?_;intro w5 hm5 f5;replace hX:=hm5.after hX (fun j e=>e ▸ hg4.out);clear hm5 f4) | refine zxz ?_ | refine zqz ?_ | fail) <;> (try refine z0z ?_))
   refine zmz ?_;intro wd hxd;have HT:=hT1.out.ext (hX.trans hxd);have FT:=HT.turn;have F0:=HT.cor.obj
   refine z29z ?_
   intro wN hxN
   refine z15z ?_
   replace hX:=hX.trans (hxd.trans hxN);clear hxd hxN HT FT F0
   go_wp2_with ((first | ((with_reducible refine at_load ?_);refine w_loadB Tryz.stPrep _ [.int .i64 d.vv, .int .i64 d.vw] rfl rfl rfl (hT1.out.ext hX).cor.obj rfl rfl ?_) | (refine z3pz ?_;intro g6 w6 hg60 hx f6;have hg6w:=hide_ (Nat.le_trans hX.size hg60);have hg6:=hide_ (show ¬ S g6 = 2 from fun e=>by have:=hT1.out.bnd g6 (by rw [e];omega);have:=hX.size;omega);clear hg60;replace hX:=hX.trans hx;clear hx) | (refine z3ez ?_;refine w_astoreN Tryz.stPrep (us:=[.int .i64 d.vv, .int .i64 d.vw]) _ _ rfl rfl rfl rfl rfl f6 rfl rfl (by intro u hu;simp at hu;rcases hu with rfl|rfl <;> rfl) ?_;intro w7 hm7 f7;replace f6:=f7;replace hX:=hm7.after hX (fun j e=>e ▸ hg6w.out);clear hm7 f7) | ((with_reducible refine at_store ?_);refine w_fstore _ _ (u := .int .i64 d.tip) rfl rfl rfl rfl rfl f6 (by simp) rfl rfl (by kernel_rfl) ?_;intro w8 hm8 f8;replace f6:Fs w8 g6 [.int .i64 d.tip, .int .i64 d.vw]:=f8;replace hX:=hm8.after hX (fun j e=>e ▸ hg6w.out);clear hm8 f8) | refine z4z ?_ | refine z39z ?_ | refine z2ez ?_ | fail) <;> (try refine z0z ?_))
   rw [he.out.1,show d.vw = pu from tnu.out] at f6
   refine zmz ?_;intro wd hxd;have HT:=hT1.out.ext (hX.trans hxd);have FT:=HT.turn;have F0:=HT.cor.obj;have F6:=f6.ext hxd
   refine Ph.gate 0 10 (by kernel_rfl) ?_
   refine z13z ?_
   refine z22z ?_
   intro wN hxN
   refine z7gz ?_
   refine z5zz ?_;intro w9 hm9 o9
   show Ph Tryz.prog _ _ 11 _ _
   refine Ph.rest 11 0 (by kernel_rfl) ?_
   intro wM hxM
   refine zuz ?_
   have hTa:=hT1.out.ext (hX.trans (hxd.trans hxN))
   have hCa:=hTa.cor.propose (d:=d.setProp v (px,pu)) hm9 o9 (hpm.out.put v hvr.out (px,pu)) rfl
   have hsa:=hTa.cor.stpProp hm9
   have hT2:=hide_ ((hTa.core hsa hCa rfl).ext hxM)
   have hS2:=hide_ (((hS1.out.trans (Stp.ofExt (hX.trans (hxd.trans hxN)) hT1.out.bnd)).trans (hsa.wide (by omega) (by omega))).trans (Stp.ofExt hxM hCa.bnd))
   have f6b:=((F6.ext hxN).mod hm9 (fun e=>hg6.out (e ▸ hTa.cor.lab.2.1))).ext hxM
   clear hTa hCa hsa hm9 o9 hX hxd hxN hxM HT FT F0 F6 f6
   go_wp2_with ((first | ((with_reducible refine at_load ?_);refine w_loadB Tryz.stPrep _ [.int .i64 px, .int .i64 pu] rfl rfl rfl f6b rfl rfl ?_) | (go_at_call 52;refine (proposal_any).mono ?_;rintro e w9 ⟨rfl,hx⟩;replace f6b:=f6b.ext hx) | (go_at_call 51;refine (send_turn (m0:=⟨3,0,0,0,px,pu⟩) (hT2.out.ext hx) hdl.out).mono ?_;rintro e wE ⟨rfl,SE,ovE,hTE,hsE⟩) | fail) <;> (try refine z0z ?_))
   go_end0
   exact Keep.intro ⟨rfl,SE,ovE,by rw [hfin.out,hoff.out];exact hTE,(hS2.out.trans (Stp.ofExt hx hT2.out.bnd)).trans hsE⟩
  ·have tn:(d.vw == -1) = false:=by simp [hno]
   have he:=hide_ (show d.vv = px∧d.vw = pu from by
    have h1:=hp1.out
    unfold CoD.prop1 at h1
    rw [if_pos (by have:=hdv.out;omega)] at h1
    injection h1 with h1 h2
    exact ⟨h1,h2⟩)
   clear hp0 hno
   go_enter Tryz.func31,Tryz.ntmps31
   go_wp2_with ((first | (refine z3dz ?_;intro w1 hm1 f1;have hC1:=hT.out.cor.cell (d:={ c with view:=v }) hm1 f1 ⟨rfl,rfl,rfl,rfl,rfl,rfl⟩ hT.out.cor.lft;have hs1:=hT.out.cor.stpCell hm1;have hTv:=hide_ (hT.out.core hs1 hC1 rfl)) | (go_at_call 50;refine (goOn_turn hTv.out hvI.out).mono ?_;rintro e w2 ⟨rfl,hT2,hs2⟩;rw [hd.out] at hT2;have hT1:=hide_ hT2;have hS1:=hide_ ((hs1.wide (by omega) (by omega)).trans hs2);have hX:=Ext.refl w2;obtain ⟨n,D,hpn0,hpo0,hpm0⟩:=hT2.cor.prp;have hpn:=hide_ (Nat.le_trans hpn0 (by omega:1001≤1000000));have hpo:=hide_ hpo0;have hpm:=hide_ hpm0;clear hpn0 hpo0 hpm0 hT2 hs2) | refine z3xz ?_ | (refine z3uz ?_;simp only [List.getElem_toArray,List.getElem_cons_succ,List.getElem_cons_zero]) | (refine z3pz ?_;intro g4 w4 hg40 hx f4;have hg4:=hide_ (Nat.le_trans hX.size hg40);clear hg40;replace hX:=hX.trans hx;clear hx) | (refine z3ez ?_;refine w_astoreN Tryz.stPrep (us:=[.int .i64 rx, .int .i64 ru]) _ _ rfl rfl rfl rfl rfl f4 rfl rfl (by intro u hu;simp at hu;rcases hu with rfl|rfl <;> rfl) ?_;intro w5 hm5 f5;replace hX:=hm5.after hX (fun j e=>e ▸ hg4.out);clear hm5 f4) | refine zxz ?_ | refine zqz ?_ | fail) <;> (try refine z0z ?_))
   refine zmz ?_;intro wd hxd;have HT:=hT1.out.ext (hX.trans hxd);have FT:=HT.turn;have F0:=HT.cor.obj
   refine z29z ?_
   intro wN hxN
   refine z15z ?_
   replace hX:=hX.trans (hxd.trans hxN);clear hxd hxN HT FT F0
   go_wp2_with ((first | ((with_reducible refine at_load ?_);refine w_loadB Tryz.stPrep _ [.int .i64 d.vv, .int .i64 d.vw] rfl rfl rfl (hT1.out.ext hX).cor.obj rfl rfl ?_) | (refine z3pz ?_;intro g6 w6 hg60 hx f6;have hg6w:=hide_ (Nat.le_trans hX.size hg60);have hg6:=hide_ (show ¬ S g6 = 2 from fun e=>by have:=hT1.out.bnd g6 (by rw [e];omega);have:=hX.size;omega);clear hg60;replace hX:=hX.trans hx;clear hx) | (refine z3ez ?_;refine w_astoreN Tryz.stPrep (us:=[.int .i64 d.vv, .int .i64 d.vw]) _ _ rfl rfl rfl rfl rfl f6 rfl rfl (by intro u hu;simp at hu;rcases hu with rfl|rfl <;> rfl) ?_;intro w7 hm7 f7;replace f6:=f7;replace hX:=hm7.after hX (fun j e=>e ▸ hg6w.out);clear hm7 f7) | refine z1pz ?_ | refine z4z ?_ | refine z2ez ?_ | fail) <;> (try refine z0z ?_))
   rw [he.out.1,he.out.2] at f6
   refine zmz ?_;intro wd hxd;have HT:=hT1.out.ext (hX.trans hxd);have FT:=HT.turn;have F0:=HT.cor.obj;have F6:=f6.ext hxd
   refine Ph.gate 0 10 (by kernel_rfl) ?_
   refine z13z ?_
   refine z22z ?_
   intro wN hxN
   refine z7gz ?_
   refine z5zz ?_;intro w9 hm9 o9
   show Ph Tryz.prog _ _ 11 _ _
   refine Ph.rest 11 0 (by kernel_rfl) ?_
   intro wM hxM
   refine zuz ?_
   have hTa:=hT1.out.ext (hX.trans (hxd.trans hxN))
   have hCa:=hTa.cor.propose (d:=d.setProp v (px,pu)) hm9 o9 (hpm.out.put v hvr.out (px,pu)) rfl
   have hsa:=hTa.cor.stpProp hm9
   have hT2:=hide_ ((hTa.core hsa hCa rfl).ext hxM)
   have hS2:=hide_ (((hS1.out.trans (Stp.ofExt (hX.trans (hxd.trans hxN)) hT1.out.bnd)).trans (hsa.wide (by omega) (by omega))).trans (Stp.ofExt hxM hCa.bnd))
   have f6b:=((F6.ext hxN).mod hm9 (fun e=>hg6.out (e ▸ hTa.cor.lab.2.1))).ext hxM
   clear hTa hCa hsa hm9 o9 hX hxd hxN hxM HT FT F0 F6 f6
   go_wp2_with ((first | ((with_reducible refine at_load ?_);refine w_loadB Tryz.stPrep _ [.int .i64 px, .int .i64 pu] rfl rfl rfl f6b rfl rfl ?_) | (go_at_call 52;refine (proposal_any).mono ?_;rintro e w9 ⟨rfl,hx⟩;replace f6b:=f6b.ext hx) | (go_at_call 51;refine (send_turn (m0:=⟨3,0,0,0,px,pu⟩) (hT2.out.ext hx) hdl.out).mono ?_;rintro e wE ⟨rfl,SE,ovE,hTE,hsE⟩) | fail) <;> (try refine z0z ?_))
   go_end0
   exact Keep.intro ⟨rfl,SE,ovE,by rw [hfin.out,hoff.out];exact hTE,(hS2.out.trans (Stp.ofExt hx hT2.out.bnd)).trans hsE⟩
end Go.Proofs.YtdoeoncmhaihbaaGreat
