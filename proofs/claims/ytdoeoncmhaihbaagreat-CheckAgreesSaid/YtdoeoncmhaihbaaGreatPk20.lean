/- A journal is taken back. · What a journal takes of what was sent. · Some cores in memory, their journals, what was sent, what was decided: which block belongs to what. · Some cores, and all that they sent, whatever is lost, late or comes twice, and whoever begins anew: no two decide two. No program. · What holds between two acts of the law that no two decide two: plain mathematics over Clus. · The contract of neaptideref01.SameInts, of two slices that read alike: true. -/
import Derived.Test.YtdoeoncmhaihbaaGreatPk18
import Derived.Test.YtdoeoncmhaihbaaGreatPk19
import Derived.Test.YtdoeoncmhaihbaaGreatPk05
namespace Go.Proofs.YtdoeoncmhaihbaaGreat
set_option maxHeartbeats 3200000
set_option maxRecDepth 100000
open Go.RowKit
theorem Tryz.elRcd:ElN Tryz.prog 34 83 5 56 (.agg #[.int .i64 0, .int .i64 0, .int .i64 0, .int .i64 0, .slice none 0 0]):=ElN.of Tryz.underlying34 (by kernel_rfl) rfl (by omega) (by omega)
theorem Tryz.stRec:StN Tryz.prog 83 5 [.int .i64 0, .int .i64 0, .int .i64 0, .int .i64 0, .slice none 0 0]:=StN.of (by kernel_rfl) (by kernel_rfl) rfl
def RcR (_:World) (row:List Value) (r:RcV):Prop:=row = rcRow r
theorem RcR.stays:Stays RcR:=fun _ _ _ _ h _=>h
theorem RowN.rcs {F:Nat→Prop} {w:World} {v:Value} {l:List RcV} (h:RowN F w 83 5 v (l.map rcRow)):Recs 5 RcR w v l:=h.recs (by simp) fun k row d h1 h2=>by
 rw [List.getElem?_map,h2] at h1
 injection h1 with h1
 exact h1.symm
theorem w_rcidx {P:Program} {ops:Array Oper} {rest:List Oper} {o:Oper} {a:Act} {Q:Exit→Act→World→Prop} {w W0:World} {t e:TypeId} {v:Value} {l:List RcV} (E:ElS P t e 5) (x y:Operand) (i:Nat) (hgd:o.guard = none) (ho:o.op = .indexAddr t x y) (hv:a.eval x = v) (hy:a.eval y = .int .i64 i)
  (h:Recs 5 RcR W0 v l) (he:Ext W0 w) {d:RcV} (hd:l[i]? = some d) (k:∀ p,RowAt w p (rcRow d)→wpList P ops Q rest (a.put o.dst (.pointer (some p))) w):wpList P ops Q (o :: rest) a w:=by
 have hi:=(List.getElem?_eq_some_iff.1 hd).1
 have e:l[i] = d:=(List.getElem?_eq_some_iff.1 hd).2
 refine w_ridx0 E x y i RcR.stays hgd ho hv hy h he hi ?_
 rintro pa row hrow _ hR
 rw [e] at hR
 have hr:row = rcRow d:=hR
 subst hr
 exact k pa (hrow.ext he)
theorem isVote_all (r:RcV) (w:World):Calls Tryz.prog 35 #[.agg (rcRow r).toArray] w fun e w'=>e = .returned (.bool (decide (CanB r.kd r.vw r.vl)))∧Ext w w':=by
 refine z2rz ?_
 rw [canB_eq]
 have hX:=Ext.refl w
 cases c1:(r.kd == 4) <;> cases c2:(r.kd == 5) <;> cases c3:decide (0≤r.vw) <;> cases c4:decide (r.vw≤1000) <;> cases c5:decide (-1≤r.vl)
 all_goals (
  go_enter Tryz.func35,Tryz.ntmps35
  go_wp2_with ((first | (refine z2lz ?_;intro g3 w1 hg3 hx f3;replace hX:=hX.trans hx;clear hx) | ((with_reducible refine at_field ?_);(try refine w_yes _ _ _ rfl rfl rfl ?_);refine w_field Tryz.stRcd _ _ _ rfl rfl rfl (by omega) ?_) | refine zrz ?_ | fail) <;> (try refine z0z ?_))
  go_ret
  exact Keep.intro ⟨rfl,hX⟩)
theorem isVote_any {r:RcV} {w:World} {b:Bool} (h:decide (CanB r.kd r.vw r.vl) = b):Calls Tryz.prog 35 #[.agg (rcRow r).toArray] w fun e w'=>e = .returned (.bool b)∧Ext w w':=by
 rw [← h];exact isVote_all r w
def FreshC (c:CoD):Prop:=c.T = T0∧c.view = 0∧c.step = 0∧c.lv = 0∧c.lw = -1∧c.vv = 0∧c.vw = -1
def JOk (J:List RcV):Prop := ∀ r∈J,(In64 r.kd∧In64 r.ix∧In64 r.vw∧In64 r.vl)∧((r.kd = 4∨r.kd = 5)→(0≤r.vw∧r.vw≤1000) ∧ -1≤r.vl)
theorem rv_fold:∀ (V:List RcV) (d:CoD),d.vv = d.lv→d.vw = d.lw→V.foldl CoD.rv d = { d with T:=V.foldl (fun T r=>vadd d.t.length T r.kd r.vw d.me r.vl) d.T,step:=if V = [] then d.step else 2,view:=V.foldl (fun m r=>max m r.vw) d.view,lv:=(V.foldl lkS (d.lv,d.lw)).1,lw:=(V.foldl lkS (d.lv,d.lw)).2,vv:=(V.foldl lkS (d.lv,d.lw)).1,vw:=(V.foldl lkS (d.lv,d.lw)).2 }
 | [],d,h1,h2=>by
  obtain ⟨_,_,_,_,_,_,_,_,_,_,_,_,_,_,_,_,_⟩:=d
  simp only at h1 h2
  subst h1;subst h2
  rfl
 | r :: V,d,h1,h2=>by
  rw [List.foldl_cons]
  by_cases hc:r.kd = 5∧r.vl ≠ -1∧d.lw < r.vw
  ·have e1:d.rv r = { d with T:=vadd d.t.length d.T r.kd r.vw d.me r.vl,step:=2,view:=max d.view r.vw,lv:=r.vl,lw:=r.vw,vv:=r.vl,vw:=r.vw }:=if_pos hc
   have e2:lkS (d.lv,d.lw) r = (r.vl,r.vw):=if_pos hc
   rw [e1,rv_fold V _ rfl rfl]
   simp only [List.foldl_cons,e2,ite_self,reduceCtorEq,if_false]
  ·have e1:d.rv r = { d with T:=vadd d.t.length d.T r.kd r.vw d.me r.vl,step:=2,view:=max d.view r.vw }:=if_neg hc
   have e2:lkS (d.lv,d.lw) r = (d.lv,d.lw):=if_neg hc
   rw [e1,rv_fold V { d with T:=vadd d.t.length d.T r.kd r.vw d.me r.vl,step:=2,view:=max d.view r.vw } h1 h2]
   simp only [List.foldl_cons,e2,ite_self,reduceCtorEq,if_false]
theorem votV_snoc (x:Int) (J:List RcV) (r:RcV):votV x (J ++ [r]) = if (r.kd = 4∨r.kd = 5)∧r.ix = x then votV x J ++ [r] else votV x J:=by
 unfold votV
 rw [List.filter_append]
 by_cases h:(r.kd = 4∨r.kd = 5)∧r.ix = x
 ·rw [if_pos h];simp [h]
 ·rw [if_neg h];simp [h]
section
variable {c e:CoD} {J V:List RcV}
theorem restore_fold (hf:FreshC c) (he:(votV ((decOf c.dec J).length:Int) J).foldl CoD.rv { c with dec:=decOf c.dec J } = e) (hV:votV ((decOf c.dec J).length:Int) J = V) :
  e = { c with dec:=decOf c.dec J,T:=tabV c.t.length c.me V,step:=if V = [] then 0 else 2,view:=viewV V,lv:=(lockV V).1,lw:=(lockV V).2,vv:=(lockV V).1,vw:=(lockV V).2 }:=by
 obtain ⟨h1,h2,h3,h4,h5,h6,h7⟩:=hf
 rw [← he,hV,rv_fold V { c with dec:=decOf c.dec J } (h6.trans h4.symm) (h7.trans h5.symm)]
 simp only [h1,h2,h3,h4,h5]
 rfl
theorem restore_nil (hf:FreshC c) (he:(votV ((decOf c.dec J).length:Int) J).foldl CoD.rv { c with dec:=decOf c.dec J } = e) (hV:votV ((decOf c.dec J).length:Int) J = []):c.restore J = e∧e.step = 0:=by
 rw [restore_fold hf he hV]
 refine ⟨?_,rfl⟩
 unfold CoD.restore
 simp only [hV]
 rfl
theorem restore_cons (hf:FreshC c) (hJ:JOk J) (hm:c.me < c.t.length) (he:(votV ((decOf c.dec J).length:Int) J).foldl CoD.rv { c with dec:=decOf c.dec J } = e) (hV:votV ((decOf c.dec J).length:Int) J = V) (hne:V ≠ []) :
  e.step = 2∧(0≤e.view∧e.view≤1000)∧c.restore J = { (if (e.T 5 e.view e.me).isSome = true then { e with step:=3 } else e) with left:=pat e.view e.base e.most }:=by
 have e0:=restore_fold hf he hV
 have hVok:∀ r∈V,RcOk r:=fun r hr=>by
  rw [← hV] at hr
  unfold votV at hr
  obtain ⟨h1,h2⟩:=List.mem_filter.1 hr
  have h2:=of_decide_eq_true h2
  exact ⟨h2.1,(hJ r h1).2 h2.1⟩
 obtain ⟨v1,v2,v3⟩:=viewV_spec V 0
 have hany:(e.T 5 e.view e.me).isSome = V.any (fun r=>decide (r.kd = 5∧r.vw = viewV V)):=by
  rw [e0]
  show (tabV c.t.length c.me V 5 (viewV V) c.me).isSome = _
  rw [Bool.eq_iff_iff,List.any_eq_true]
  constructor
  ·intro h
   obtain ⟨x,hx⟩:=Option.isSome_iff_exists.1 h
   rcases tabV_from V T0 hx with h1 | ⟨_,r,hr,h1,h2,_⟩
   ·cases h1
   ·exact ⟨r,hr,decide_eq_true ⟨h1,h2⟩⟩
  ·rintro ⟨r,hr,h⟩
   obtain ⟨h1,h2⟩:=of_decide_eq_true h
   have:=tabV_has V T0 hVok hm r hr
   rw [h1,h2] at this
   exact Option.isSome_iff_ne_none.2 this
 refine ⟨by rw [e0];exact if_neg hne, ?_, ?_⟩
 ·rw [e0]
  refine ⟨v1, ?_⟩
  rcases v3 with v3 | ⟨r,hr,v3⟩
  ·show viewV V≤1000;unfold viewV;omega
  ·have:=(hVok r hr).2.1;show viewV V≤1000;unfold viewV;omega
 ·rw [hany,e0]
  unfold CoD.restore stepV
  simp only [hV,if_neg hne]
  split <;> rfl
end
theorem Restore_core {S0:Nat→Nat} {w:World} {p q gp gs:Nat} {sv dv0 jv:Value} {c:CoD} {J:List RcV} (h:CorW S0 w p sv dv0 q gp gs c) (hf0:FreshC c) (hJ0:JOk J) (hr0:RowN (fun k=>S0 k = 0) w 83 5 jv (J.map rcRow)) (hdl0:(c.dec.length + J.length + 1) * 8≤140737488355328) :
  Calls Tryz.prog 12 #[.pointer (some ⟨p,0,none⟩),jv] w fun e w'=>e = .returned (.tuple #[])∧∃ S dv,CorW S w' p sv dv q gp gs (c.restore J)∧Stp 1 6 S0 S w w':=by
 refine z2rz ?_
 have hC:=hide_ h
 have hf:=hide_ hf0
 have hJ:=hide_ hJ0
 have hR:=hide_ hr0
 have hrs:=hide_ hr0.rcs
 have hdl:=hide_ hdl0
 have hdec:=hide_ (show ∀ K:List RcV,(decOf c.dec K).length≤c.dec.length + K.length from fun K=>by
  obtain ⟨d,hd⟩:∃ d,c.dec = d:=⟨_,rfl⟩
  rw [hd];clear hd
  induction K generalizing d with
  | nil=>exact Nat.le_refl _
  | cons r K ih =>
   have:=ih (if r.kd = 6∧r.ix = (d.length:Int) then d ++ [r.vl] else d)
   refine Nat.le_trans this ?_
   split <;> simp <;> omega)
 have hmax:=hr0.rcs.len_le
 unfold maxLen at hmax
 clear h hf0 hJ0 hr0 hdl0
 go_enter Tryz.func12,Tryz.ntmps12
 go_wp2_with ((first | ((with_reducible refine at_bi ?_);refine w_rlen Tryz.elRcd.elS _ rfl rfl rfl hrs.out ?_) | fail) <;> (try refine z0z ?_))
 go_loopw [12] (fun i wr => ∃ (k:Nat) (S:Nat→Nat) (dv:Value),i = .int .i64 k∧k≤J.length∧CorW S wr p sv dv q gp gs { c with dec:=decOf c.dec (J.take k) }∧Stp 1 6 S0 S w wr) (fun i _=>J.length - (RowKit.intOf i).toNat)
 case atStart=>exact ⟨0,S0,dv0,rfl,Nat.zero_le _,hC.out,Stp.refl hC.out.bnd⟩
 case round =>
  obtain ⟨k,S,dv,rfl,hk,hC0,hs0⟩:=hrel
  by_cases hge:J.length≤k
  ·obtain rfl:k = J.length:=by omega
   have t3:decide (J.length < J.length) = false:=by simp
   rw [List.take_length] at hC0
   obtain ⟨d,hd0⟩:∃ d, { c with dec:=decOf c.dec J } = d:=⟨_,rfl⟩
   rw [hd0] at hC0
   have hC1:=hide_ hC0
   have hs1:=hide_ hs0
   have hdd:=hide_ hd0
   have hrs1:=hide_ (hR.out.mod hs0.mod (fun k hk e=>by have e1:S0 k = 0:=hk;have:=e.1;omega)).rcs
   clear hge hC0 hs0 hd0 hk
   go_wp2_with ((first | ((with_reducible refine at_bi ?_);refine w_rlen Tryz.elRcd.elS _ rfl rfl rfl hrs1.out ?_) | fail) <;> (try refine z0z ?_))
   go_loopw [40] (fun i wr => ∃ (k:Nat) (S3:Nat→Nat),i = .int .i64 k∧k≤J.length∧CorW S3 wr p sv dv q gp gs ((votV (d.dec.length:Int) (J.take k)).foldl CoD.rv d)∧Stp 1 6 S0 S3 w wr) (fun i _=>J.length - (RowKit.intOf i).toNat)
   case atStart=>exact ⟨0,S,rfl,Nat.zero_le _,hC1.out,hs1.out⟩
   case round =>
    obtain ⟨k,S3,rfl,hk,hC0,hs0⟩:=hrel
    by_cases hge:J.length≤k
    ·obtain rfl:k = J.length:=by omega
     have t3:decide (J.length < J.length) = false:=by simp
     rw [List.take_length] at hC0
     obtain ⟨e,he0⟩:∃ e,(votV (d.dec.length:Int) J).foldl CoD.rv d = e:=⟨_,rfl⟩
     rw [he0] at hC0
     have hC3:=hide_ hC0
     have hs3:=hide_ hs0
     have hed:(votV ((decOf c.dec J).length:Int) J).foldl CoD.rv { c with dec:=decOf c.dec J } = e:=by rw [← he0, ← hdd.out]
     obtain ⟨V,hV⟩:∃ V,votV ((decOf c.dec J).length:Int) J = V:=⟨_,rfl⟩
     by_cases hne:V = []
     ·obtain ⟨hfin0,hst⟩:=restore_nil hf.out hed (hne ▸ hV)
      have hfin:=hide_ hfin0
      have t4:(e.step == 0) = true:=by rw [hst];rfl
      clear hge hC0 hs0 hk he0 hed hV hne hfin0 hst
      go_wp2_with ((first | refine z2tz ?_ | fail) <;> (try refine z0z ?_))
      go_end0
      exact Keep.intro ⟨rfl,S3,dv,by rw [hfin.out];exact hC3.out,hs3.out⟩
     ·obtain ⟨hst,hvb,hfin0⟩:=restore_cons hf.out hJ.out hC.out.me hed hV hne
      have t4:(e.step == 0) = false:=by rw [hst];rfl
      have hvw:=hide_ (show In64 e.view from by unfold In64;omega)
      have hvw2:=hide_ (show e.view≤9223372036854775807 by omega)
      have hme:=hide_ (show e.me≤1000000 from by have:=hC0.me;have:=hC0.st.2.1;omega)
      obtain ⟨vx,hvx⟩:∃ vx,(e.T 5 e.view e.me).getD 0 = vx:=⟨_,rfl⟩
      cases ho:(e.T 5 e.view e.me).isSome
      ·have hvo:=hide_ (And.intro hvx ho)
       rw [ho] at hfin0
       simp only [Bool.false_eq_true,if_false] at hfin0
       have hfin:=hide_ hfin0
       clear hge hC0 hs0 hk he0 hed hV hne hfin0 hst hvb hvx ho
       go_wp2_with ((first | refine z2tz ?_ | fail) <;> (try refine z0z ?_))
       refine zmz ?_;intro wd hxd;have HC:=hC3.out.ext hxd;have F0:=HC.obj
       refine z2nz ?_
       refine LinL.step (s:=(.val (.tuple #[.int .i64 vx, .bool false]))) [(68,some 9),(73,some 4),(77,some 0)] rfl (by kernel_rfl) (op_calls 37 #[(.tmp 68),(.const (.int .i64 5)),(.tmp 73),(.tmp 77)] #[63,3,3,3] (fun σ => #[.pointer (some ⟨q,0,none⟩), .int .i64 5, .int .i64 e.view, .int .i64 (e.me:Nat)]) rfl rfl (fun _ _=>rfl) fun σ w' hx hg=>⟨by have h68 : σ.tmps.getD 68 undef = .pointer (some ⟨q,0,none⟩):=hg.1;have h73 : σ.tmps.getD 73 undef = .int .i64 e.view:=hg.2.1;have h77 : σ.tmps.getD 77 undef = .int .i64 (e.me:Nat):=hg.2.2.1;simp only [List.map_toArray,List.map_cons,List.map_nil,Act.eval,h68,h73,h77],rdV (votC (HC.ext hx).tal (by unfold In64;omega) hvw.out (In64.nat hme.out) hvo.out)⟩) ?_
       refine LinL.st [(78,some 0)] rfl (opcp (.val (.tuple #[.int .i64 vx, .bool false]))) ?_
       refine z5yz ?_
       refine LinL.step (s:=(.val (.bool false))) [(63,some 1)] rfl (by kernel_rfl) (op_runs rfl fun σ w' hx hg=>⟨_,runs_extract (ρ := σ.eval) (w:=w') rfl hg.1 rfl,rfl⟩) ?_
       refine LinL.st [(79,some 1)] rfl (opcp (.val (.int .i64 vx))) ?_
       refine LinL.st [(80,some 1)] rfl (opcp (.val (.bool false))) ?_
       intro wN hxN
       refine z15z ?_
       have hX:=hxd.trans hxN;clear hxd hxN HC F0
       go_wp2_with (first | (go_at_call 38;refine (wait_core (hC3.out.ext hX) hvw2.out).mono ?_;rintro e9 w9 ⟨rfl,hC7,hs7⟩) | fail)
       go_end0
       exact Keep.intro ⟨rfl,S3,dv,by rw [hfin.out];exact hC7,hs3.out.trans ((Stp.ofExt hX hC3.out.bnd).trans hs7)⟩
      ·have hvo:=hide_ (And.intro hvx ho)
       rw [ho] at hfin0
       simp only [if_true] at hfin0
       have hfin:=hide_ hfin0
       clear hge hC0 hs0 hk he0 hed hV hne hfin0 hst hvb hvx ho
       go_wp2_with ((first | refine z2tz ?_ | fail) <;> (try refine z0z ?_))
       refine zmz ?_;intro wd hxd;have HC:=hC3.out.ext hxd;have F0:=HC.obj
       refine z2nz ?_
       refine LinL.step (s:=(.val (.tuple #[.int .i64 vx, .bool true]))) [(68,some 9),(73,some 4),(77,some 0)] rfl (by kernel_rfl) (op_calls 37 #[(.tmp 68),(.const (.int .i64 5)),(.tmp 73),(.tmp 77)] #[63,3,3,3] (fun σ => #[.pointer (some ⟨q,0,none⟩), .int .i64 5, .int .i64 e.view, .int .i64 (e.me:Nat)]) rfl rfl (fun _ _=>rfl) fun σ w' hx hg=>⟨by have h68 : σ.tmps.getD 68 undef = .pointer (some ⟨q,0,none⟩):=hg.1;have h73 : σ.tmps.getD 73 undef = .int .i64 e.view:=hg.2.1;have h77 : σ.tmps.getD 77 undef = .int .i64 (e.me:Nat):=hg.2.2.1;simp only [List.map_toArray,List.map_cons,List.map_nil,Act.eval,h68,h73,h77],rdV (votC (HC.ext hx).tal (by unfold In64;omega) hvw.out (In64.nat hme.out) hvo.out)⟩) ?_
       refine LinL.st [(78,some 0)] rfl (opcp (.val (.tuple #[.int .i64 vx, .bool true]))) ?_
       refine z5yz ?_
       refine LinL.step (s:=(.val (.bool true))) [(63,some 1)] rfl (by kernel_rfl) (op_runs rfl fun σ w' hx hg=>⟨_,runs_extract (ρ := σ.eval) (w:=w') rfl hg.1 rfl,rfl⟩) ?_
       refine LinL.st [(79,some 1)] rfl (opcp (.val (.int .i64 vx))) ?_
       refine LinL.st [(80,some 1)] rfl (opcp (.val (.bool true))) ?_
       intro wN hxN
       refine z15z ?_
       have hX:=hxd.trans hxN;clear hxd hxN HC F0
       go_wp2_with ((first | (go_at_call 38;refine (wait_core hC4.out hvw2.out).mono ?_;rintro e9 w9 ⟨rfl,hC7,hs7⟩) | refine zsz ?_ | refine zhz ?_ | ((with_reducible refine at_nilc ?_);refine w_nilP _ rfl rfl rfl ?_) | ((with_reducible refine at_store ?_);refine w_fstore _ _ (u := .int .i64 3) rfl rfl rfl rfl rfl (hC3.out.ext hX).obj (by simp [coRow]) rfl rfl (by kernel_rfl) ?_;intro w2 hm2 f2;have hC4:=hide_ ((hC3.out.ext hX).cell (d:={ e with step:=3 }) hm2 f2 ⟨rfl,rfl,rfl,rfl,rfl,rfl⟩ (hC3.out.ext hX).lft);have hs4:=hide_ (hs3.out.trans ((Stp.ofExt hX hC3.out.bnd).trans ((hC3.out.ext hX).stpCell hm2)));clear hm2 f2) | fail) <;> (try refine z0z ?_))
       go_end0
       exact Keep.intro ⟨rfl,S3,⟨dv,by rw [hfin.out];exact hC7⟩,hs4.out.trans hs7⟩
    have hlt:k < J.length:=by omega
    have t3:decide (k < J.length) = true:=decide_eq_true hlt
    obtain ⟨r,hd0⟩:∃ r,J[k]? = some r:=⟨_,List.getElem?_eq_getElem hlt⟩
    have hd:=hide_ hd0
    have hlt':=hide_ hlt
    have hkb:k < 9223372036854775807:=by omega
    have e0:J.take (k + 1) = J.take k ++ [r]:=by rw [List.take_add_one,hd0];rfl
    have hrJ:=hJ.out r (List.mem_of_getElem? hd0)
    obtain ⟨e,he0⟩:∃ e,(votV (d.dec.length:Int) (J.take k)).foldl CoD.rv d = e:=⟨_,rfl⟩
    have hel:e.dec.length = d.dec.length:=by
     rw [← he0]
     generalize votV (d.dec.length:Int) (J.take k) = V
     have:∀ (V:List RcV) (d:CoD),(V.foldl CoD.rv d).dec = d.dec:=fun V=>by
      induction V with
      | nil=>intro d;rfl
      | cons r V ih=>intro d;rw [List.foldl_cons,ih];unfold CoD.rv;split <;> rfl
     rw [this]
    have hst0:(votV (d.dec.length:Int) (J.take (k + 1))).foldl CoD.rv d = if (r.kd = 4∨r.kd = 5)∧r.ix = (d.dec.length:Int) then e.rv r else e:=by
     rw [e0,votV_snoc]
     split
     ·rw [List.foldl_append,he0];rfl
     ·exact he0
    rw [he0] at hC0
    have hC2:=hide_ hC0
    have hs2:=hide_ hs0
    have hrk:=hide_ (hR.out.mod hs0.mod (fun k hk e=>by have e1:S0 k = 0:=hk;have:=e.1;omega)).rcs
    by_cases hkd:r.kd = 4∨r.kd = 5
    ·have hcan:=hide_ (show decide (CanB r.kd r.vw r.vl) = true from decide_eq_true ⟨hkd,(hrJ.2 hkd).1,(hrJ.2 hkd).2⟩)
     by_cases hix:r.ix = (d.dec.length:Int)
     ·have t8:(r.ix == (e.dec.length:Int)) = true:=by rw [hel,hix];simp
      have hsn:=hide_ (hst0.trans (if_pos ⟨hkd,hix⟩))
      have hrk2:=hide_ (show RcK r from ⟨by omega,hrJ.1.2.1,(hrJ.2 hkd).1,(hrJ.2 hkd).2,hrJ.1.2.2.2⟩)
      clear hge hlt hd0 e0 hrJ he0 hel hst0 hC0 hs0 hkd hix hk
      go_wp2_with ((first | (refine z3vz ?_;intro pa hrow0;have hrow:=hide_ hrow0;clear hrow0) | refine z3nz ?_ | (refine z4az ?_;intro g9 w5 hg9 hxa f9) | (refine z3ez ?_;refine w_astore Tryz.stRcd _ _ (us:=[.int .i64 r.kd, .int .i64 r.ix, .int .i64 r.vw, .int .i64 r.vl, .slice none 0 0]) rfl rfl rfl rfl rfl f9 rfl rfl (by intro u hu;simp at hu;rcases hu with rfl|rfl|rfl|rfl|rfl <;> rfl) ?_;intro w6 hm6 f6;have hX:=hm6.after hxa (fun i e=>e ▸ hg9);replace f9:=f6;clear hm6 hxa f6 hg9) | fail) <;> (try refine z0z ?_))
      refine zmz ?_;intro wd hxd;have HC:=hC2.out.ext (hX.trans hxd);have F9:=f9.ext hxd
      refine Ph.rest 0 9 (by kernel_rfl) ?_
      refine zzz ?_
      refine LinL.step (s:=(.val (.bool true))) [(48,some 2),(50,some 0),(46,some 4)] rfl (by kernel_rfl) (op_yes (reads:=[(48,some 2),(50,some 0)]) 2 46 4 true rfl rfl rfl (op_runs rfl fun σ w' hx hg=>⟨(.bool true),by have h48 : σ.tmps.getD 48 undef = .int .i64 r.ix:=hg.1;have h50 : σ.tmps.getD 50 undef = .int .i64 (e.dec.length:Nat):=hg.2.1;unfold Runs execOp;simp [Act.eval,h48,h50,go_sem,t8],rfl⟩)) ?_
      refine LinL.step (s:=(.val (.bool true))) [(46,some 5),(51,some 0)] rfl (by kernel_rfl) (op_runs rfl fun σ w' hx hg=>⟨_,runs_pick_t (ρ := σ.eval) (w:=w') (.tmp 46) (.tmp 51) (.const (.bool false)) rfl hg.1 hg.2.1,rfl⟩) ?_
      intro wN hxN
      refine z15z ?_
      replace hX:=hX.trans (hxd.trans hxN);replace f9:=f9.ext (hxd.trans hxN);clear hxd hxN HC F9
      go_wp2_with ((first | (go_at_call 36;refine (restoreVote_core (hC2.out.ext hX) hrk2.out (hC2.out.ext hX).me).mono ?_;rintro e9 w9 ⟨rfl,S4,hC40,hs40⟩;have hC4:=hide_ hC40;have hs4:=hide_ (hs2.out.trans ((Stp.ofExt hX hC2.out.bnd).trans hs40));clear hC40 hs40) | ((with_reducible refine at_load ?_);refine w_aload Tryz.stRcd _ rfl rfl rfl f9 rfl ?_) | fail) <;> (try refine z0z ?_))
      clear f9 hX
      go_roundw
      case rel=>exact ⟨k + 1,S4,by go_num,hlt'.out,by rw [hsn.out];exact hC4.out,hs4.out⟩
      case measure=>have:=hlt'.out;simp [RowKit.intOf];omega
     ·have t8:(r.ix == (e.dec.length:Int)) = false:=by rw [hel];simpa using hix
      have hsn:=hide_ (hst0.trans (if_neg fun q=>hix q.2))
      clear hge hlt hd0 e0 hrJ he0 hel hst0 hC0 hs0 hkd hix hk
      go_wp2_with ((first | (refine z3vz ?_;intro pa hrow0;have hrow:=hide_ hrow0;clear hrow0) | refine z3nz ?_ | (refine z4az ?_;intro g9 w5 hg9 hxa f9) | (refine z3ez ?_;refine w_astore Tryz.stRcd _ _ (us:=[.int .i64 r.kd, .int .i64 r.ix, .int .i64 r.vw, .int .i64 r.vl, .slice none 0 0]) rfl rfl rfl rfl rfl f9 rfl rfl (by intro u hu;simp at hu;rcases hu with rfl|rfl|rfl|rfl|rfl <;> rfl) ?_;intro w6 hm6 f6;have hX:=hm6.after hxa (fun i e=>e ▸ hg9);replace f9:=f6;clear hm6 hxa f6 hg9) | fail) <;> (try refine z0z ?_))
      refine zmz ?_;intro wd hxd;have HC:=hC2.out.ext (hX.trans hxd);have F9:=f9.ext hxd
      refine Ph.rest 0 9 (by kernel_rfl) ?_
      refine zzz ?_
      refine LinL.step (s:=(.val (.bool false))) [(48,some 2),(50,some 0),(46,some 4)] rfl (by kernel_rfl) (op_yes (reads:=[(48,some 2),(50,some 0)]) 2 46 4 true rfl rfl rfl (op_runs rfl fun σ w' hx hg=>⟨(.bool false),by have h48 : σ.tmps.getD 48 undef = .int .i64 r.ix:=hg.1;have h50 : σ.tmps.getD 50 undef = .int .i64 (e.dec.length:Nat):=hg.2.1;unfold Runs execOp;simp [Act.eval,h48,h50,go_sem,t8],rfl⟩)) ?_
      refine LinL.step (s:=(.val (.bool false))) [(46,some 5),(51,some 0)] rfl (by kernel_rfl) (op_runs rfl fun σ w' hx hg=>⟨_,runs_pick_t (ρ := σ.eval) (w:=w') (.tmp 46) (.tmp 51) (.const (.bool false)) rfl hg.1 hg.2.1,rfl⟩) ?_
      intro wN hxN
      refine z15z ?_
      replace hX:=hX.trans (hxd.trans hxN);replace f9:=f9.ext (hxd.trans hxN);clear hxd hxN HC F9
      go_wp2
      clear f9
      go_roundw
      case rel=>exact ⟨k + 1,S3,by go_num,hlt'.out,by rw [hsn.out];exact hC2.out.ext hX,hs2.out.trans (Stp.ofExt hX hC2.out.bnd)⟩
      case measure=>have:=hlt'.out;simp [RowKit.intOf];omega
    ·have hcan:=hide_ (show decide (CanB r.kd r.vw r.vl) = false from decide_eq_false fun q=>hkd q.1)
     have hsn:=hide_ (hst0.trans (if_neg fun q=>hkd q.1))
     clear hge hlt hd0 e0 hrJ he0 hel hst0 hC0 hs0 hkd hk
     go_wp2_with ((first | (refine z3vz ?_;intro pa hrow0;have hrow:=hide_ hrow0;clear hrow0) | refine z3nz ?_ | (refine z4az ?_;intro g9 w5 hg9 hxa f9) | (refine z3ez ?_;refine w_astore Tryz.stRcd _ _ (us:=[.int .i64 r.kd, .int .i64 r.ix, .int .i64 r.vw, .int .i64 r.vl, .slice none 0 0]) rfl rfl rfl rfl rfl f9 rfl rfl (by intro u hu;simp at hu;rcases hu with rfl|rfl|rfl|rfl|rfl <;> rfl) ?_;intro w6 hm6 f6;have hX:=hm6.after hxa (fun i e=>e ▸ hg9);replace f9:=f6;clear hm6 hxa f6 hg9) | fail) <;> (try refine z0z ?_))
     refine zmz ?_;intro wd hxd;have HC:=hC2.out.ext (hX.trans hxd);have F9:=f9.ext hxd
     refine Ph.rest 0 9 (by kernel_rfl) ?_
     refine LinL.step (s:=(.val (.agg #[.int .i64 r.kd, .int .i64 r.ix, .int .i64 r.vw, .int .i64 r.vl, .slice none 0 0]))) [(7,none)] rfl (by kernel_rfl) (op_runs rfl fun σ w' hx hg=>⟨_,runs_loadB (ρ := σ.eval) (w:=w') Tryz.stRec (.tmp 7) (us:=[.int .i64 r.kd, .int .i64 r.ix, .int .i64 r.vw, .int .i64 r.vl, .slice none 0 0]) rfl hg.1 (F9.ext hx) rfl rfl,rfl⟩) ?_
     refine LinL.step (s:=(.val (.bool false))) [(44,some 0)] rfl (by kernel_rfl) (op_calls 35 #[(.tmp 44)] #[83] (fun σ => #[.agg #[.int .i64 r.kd, .int .i64 r.ix, .int .i64 r.vw, .int .i64 r.vl, .slice none 0 0]]) rfl rfl (fun _ _=>rfl) fun σ w' hx hg=>⟨by have h44 : σ.tmps.getD 44 undef = .agg #[.int .i64 r.kd, .int .i64 r.ix, .int .i64 r.vw, .int .i64 r.vl, .slice none 0 0]:=hg.1;simp only [List.map_toArray,List.map_cons,List.map_nil,Act.eval,h44],rdV (isVote_any hcan.out)⟩) ?_
     refine LinL.st [(45,some 0)] rfl (opcp (.val (.bool false))) ?_
     refine LinL.step (s := .val undef) [(7,none),(46,some 0)] rfl (by kernel_rfl) (op_no (reads:=[(7,none)]) 2 46 0 true rfl rfl rfl) ?_
     refine LinL.step (s := .val undef) [(47,some 0),(46,some 1)] rfl (by kernel_rfl) (op_no (reads:=[(47,some 0)]) 2 46 1 true rfl rfl rfl) ?_
     refine LinL.step (s := .val undef) [(0,none),(46,some 2)] rfl (by kernel_rfl) (op_no (reads:=[(0,none)]) 2 46 2 true rfl rfl rfl) ?_
     refine LinL.step (s := .val undef) [(49,some 0),(46,some 3)] rfl (by kernel_rfl) (op_no (reads:=[(49,some 0)]) 2 46 3 true rfl rfl rfl) ?_
     refine LinL.step (s := .val undef) [(48,some 2),(50,some 0),(46,some 4)] rfl (by kernel_rfl) (op_no (reads:=[(48,some 2),(50,some 0)]) 2 46 4 true rfl rfl rfl) ?_
     refine LinL.step (s:=(.val (.bool false))) [(46,some 5),(51,some 0)] rfl (by kernel_rfl) (op_runs rfl fun σ w' hx hg=>⟨_,runs_pick_f (ρ := σ.eval) (w:=w') (.tmp 46) (.tmp 51) (.const (.bool false)) rfl hg.1 rfl,rfl⟩) ?_
     intro wN hxN
     refine z15z ?_
     replace hX:=hX.trans (hxd.trans hxN);replace f9:=f9.ext (hxd.trans hxN);clear hxd hxN HC F9
     go_wp2
     clear f9
     go_roundw
     case rel=>exact ⟨k + 1,S3,by go_num,hlt'.out,by rw [hsn.out];exact hC2.out.ext hX,hs2.out.trans (Stp.ofExt hX hC2.out.bnd)⟩
     case measure=>have:=hlt'.out;simp [RowKit.intOf];omega
  have hlt:k < J.length:=by omega
  have t3:decide (k < J.length) = true:=decide_eq_true hlt
  obtain ⟨r,hd0⟩:∃ r,J[k]? = some r:=⟨_,List.getElem?_eq_getElem hlt⟩
  have hd:=hide_ hd0
  have hlt':=hide_ hlt
  have hkb:k < 9223372036854775807:=by omega
  have e0:J.take (k + 1) = J.take k ++ [r]:=by rw [List.take_add_one,hd0];rfl
  have hst0:=decOf_snoc c.dec (J.take k) r
  rw [← e0] at hst0
  have hdl1:=hide_ (show ((decOf c.dec (J.take k)).length + 1) * 8≤140737488355328 from by have h1:=hdec.out (J.take k);rw [List.length_take] at h1;have h2:=hdl.out;omega)
  obtain ⟨D,hD0⟩:∃ D,decOf c.dec (J.take k) = D:=⟨_,rfl⟩
  rw [hD0] at hst0 hC0 hdl1
  have hrk:=hide_ (hR.out.mod hs0.mod (fun k hk e=>by have e1:S0 k = 0:=hk;have:=e.1;omega)).rcs
  obtain ⟨d,hdd⟩:∃ d, { c with dec:=D } = d:=⟨_,rfl⟩
  have hdD:d.dec = D:=by rw [← hdd]
  rw [hdd] at hC0
  rw [← hdD] at hdl1
  have hC1:=hide_ hC0
  have hs1:=hide_ hs0
  by_cases hkd:r.kd = 6
  ·have t6:(r.kd == 6) = true:=by simpa using hkd
   by_cases hix:r.ix = (D.length:Int)
   ·have t8:(r.ix == (d.dec.length:Int)) = true:=by rw [hdD,hix];simp
    have hsn:=hide_ (show { c with dec:=decOf c.dec (J.take (k + 1)) } = { d with dec:=d.dec ++ [r.vl] } from by rw [hst0,if_pos ⟨hkd,hix⟩, ← hdd])
    clear hge hlt hd0 e0 hst0 hD0 hdd hdD hC0 hs0 hkd hix hk
    go_wp2_with ((first | (refine z3vz ?_;intro pa hrow0;have hrow:=hide_ hrow0;clear hrow0) | refine z3nz ?_ | (refine z4az ?_;intro g9 w5 hg9 hxa f9) | (refine z3ez ?_;refine w_astore Tryz.stRcd _ _ (us:=[.int .i64 r.kd, .int .i64 r.ix, .int .i64 r.vw, .int .i64 r.vl, .slice none 0 0]) rfl rfl rfl rfl rfl f9 rfl rfl (by intro u hu;simp at hu;rcases hu with rfl|rfl|rfl|rfl|rfl <;> rfl) ?_;intro w6 hm6 f6;have hX:=hm6.after hxa (fun i e=>e ▸ hg9);replace f9:=f6;clear hm6 hxa f6 hg9) | fail) <;> (try refine z0z ?_))
    refine zmz ?_;intro wd hxd;have HC:=hC1.out.ext (hX.trans hxd);have F9:=f9.ext hxd
    refine z1bz ?_
    refine LinL.step (s:=(.val (.bool true))) [(21,some 2),(23,some 0),(19,some 4)] rfl (by kernel_rfl) (op_yes (reads:=[(21,some 2),(23,some 0)]) 3 19 4 true rfl rfl rfl (op_runs rfl fun σ w' hx hg=>⟨(.bool true),by have h21 : σ.tmps.getD 21 undef = .int .i64 r.ix:=hg.1;have h23 : σ.tmps.getD 23 undef = .int .i64 (d.dec.length:Nat):=hg.2.1;unfold Runs execOp;simp [Act.eval,h21,h23,go_sem,t8],rfl⟩)) ?_
    refine LinL.step (s:=(.val (.bool true))) [(19,some 5),(24,some 0)] rfl (by kernel_rfl) (op_runs rfl fun σ w' hx hg=>⟨_,runs_pick_t (ρ := σ.eval) (w:=w') (.tmp 19) (.tmp 24) (.const (.bool false)) rfl hg.1 hg.2.1,rfl⟩) ?_
    intro wN hxN
    refine z15z ?_
    replace hX:=hX.trans (hxd.trans hxN);replace f9:=f9.ext (hxd.trans hxN);clear hxd hxN HC F9
    go_wp2
    have hCN:=hC1.out.ext hX
    refine wp_region_chain [0,1,2,3,4,5,6,9,10] [7,8,11] [11] (fun i=>([26,27,28,29,30,31,32,33,34,35,36,26]:List Nat).getD i 0) (fun i y=>y = ([(.pointer (some ⟨p,0,none⟩)),(.pointer (some ⟨p,0,none⟩)),(.pointer (some ⟨p,0,none⟩)),(.pointer (some ⟨p,4,none⟩)),(dv),(.pointer (some ⟨g9,3,none⟩)),(.int .i64 r.vl),undef,undef,(.pointer (some ⟨p,0,none⟩)),(.pointer (some ⟨p,4,none⟩)),undef]:List Value).getD i undef) (JD S wN p (coRow d sv dv q gp gs) dv d.dec r.vl) (by kernel_rfl) (by kernel_rfl) (by kernel_rfl) (by decide) (by kernel_rfl) (by decide) (by decide) (by decide) (by intro i hi;show _ < 88;revert i;decide) (by kernel_rfl) (fun w1 h=>h) ?_ ?_ ?_
    ·intro i hi m xc b w' hJ hlat hpre hout hdep
     rcases (show i = 0∨i = 1∨i = 2∨i = 3∨i = 4∨i = 5∨i = 6∨i = 9∨i = 10 by simp at hi;omega) with rfl|rfl|rfl|rfl|rfl|rfl|rfl|rfl|rfl
     ·have e0:b.tmps.getD 0 undef = .pointer (some ⟨p,0,none⟩):=hout 0 (by decide)
      exact z6oz
     ·have e0:b.tmps.getD 0 undef = .pointer (some ⟨p,0,none⟩):=hout 0 (by decide)
      exact z6oz
     ·have e27:b.tmps.getD 27 undef = .pointer (some ⟨p,0,none⟩):=hdep 1 (by decide) (by kernel_rfl)
      refine zgz ?_
      refine w_nilC _ rfl rfl e27 ?_
      exact z2gz
     ·have e28:b.tmps.getD 28 undef = .pointer (some ⟨p,0,none⟩):=hdep 2 (by decide) (by kernel_rfl)
      refine zgz ?_
      refine w_fieldB (i:=4) (off:=4) (c:=4) (by kernel_rfl) rfl (.tmp 28) p rfl rfl e28 ?_
      exact z2gz
     ·have e29:b.tmps.getD 29 undef = .pointer (some ⟨p,4,none⟩):=hdep 3 (by decide) (by kernel_rfl)
      have hx:Ext wN w':=JD.ext hJ (hlat 1 (by decide) (by kernel_rfl))
      refine zgz ?_
      refine w_fload (.tmp 29) rfl rfl e29 (hCN.obj.ext hx) rfl (agg_of (by kernel_rfl)) ?_
      exact z2gz
     ·have e5:b.tmps.getD 5 undef = .pointer (some ⟨g9,0,none⟩):=hout 5 (by decide)
      refine zgz ?_
      refine w_fieldB (i:=3) (off:=3) (c:=3) (by kernel_rfl) rfl (.tmp 5) g9 rfl rfl e5 ?_
      exact z2gz
     ·have e31:b.tmps.getD 31 undef = .pointer (some ⟨g9,3,none⟩):=hdep 5 (by decide) (by kernel_rfl)
      have hx:Ext wN w':=JD.ext hJ (hlat 0 (by decide) (by kernel_rfl))
      refine zgz ?_
      refine w_fload (.tmp 31) rfl rfl e31 (f9.ext hx) rfl (agg_of (by kernel_rfl)) ?_
      exact z2gz
     ·have e26:b.tmps.getD 26 undef = .pointer (some ⟨p,0,none⟩):=hdep 0 (by decide) (by kernel_rfl)
      refine zgz ?_
      refine w_nilC _ rfl rfl e26 ?_
      exact z2gz
     ·have e35:b.tmps.getD 35 undef = .pointer (some ⟨p,0,none⟩):=hdep 9 (by decide) (by kernel_rfl)
      refine zgz ?_
      refine w_fieldB (i:=4) (off:=4) (c:=4) (by kernel_rfl) rfl (.tmp 35) p rfl rfl e35 ?_
      exact z2gz
    ·intro m hm xc b w' hJ hpr hout hdep
     rcases (show m = 0∨m = 1∨m = 2 by simp at hm;omega) with rfl|rfl|rfl
     ·have e32:b.tmps.getD 32 undef = .int .i64 r.vl:=hdep 6 (by decide) (by kernel_rfl)
      show wpOp _ _ _ 7 _ _ _
      have hx:Ext wN w':=hJ
      refine zgz ?_
      refine w_new Tryz.elI (i64s [r.vl]) rfl rfl (by show [(0,b.tmps.getD 32 undef)] = _;rw [e32];rfl) (i64s_cells _) rfl (by omega) ?_
      intro v2 w2 hx2 o2
      exact ⟨_,rfl,hx.trans hx2,Sl.of_own o2⟩
     ·have e30:b.tmps.getD 30 undef = dv:=hdep 4 (by decide) (by kernel_rfl)
      have e33:b.tmps.getD 33 undef = xc:=hpr (by omega) rfl
      show wpOp _ _ _ 8 _ _ _
      obtain ⟨hx,hs⟩:=hJ
      refine zgz ?_
      refine w_rapp Tryz.elI (.tmp 30) (.tmp 33) rfl rfl e30 e33 (hCN.dec.ext hx) hs (i64s_one _) (by rw [i64s_length,i64s_length];exact hdl1.out) ?_
      intro v2 w2 hm2 hr2 _
      exact z3wz
     ·have e36:b.tmps.getD 36 undef = .pointer (some ⟨p,4,none⟩):=hdep 10 (by decide) (by kernel_rfl)
      have e34:b.tmps.getD 34 undef = xc:=hpr (by omega) rfl
      show wpOp _ _ _ 11 _ _ _
      obtain ⟨hm1,hr1⟩:=hJ
      obtain ⟨A,cc,hxv,_⟩:=hr1.sl
      refine zgz ?_
      refine w_fstore (u:=xc) (.tmp 36) (.tmp 34) rfl rfl rfl e36 e34 (hCN.obj.mod hm1 fun e=>by have e2:S p = 4:=e;rw [hCN.lab.1] at e2;omega) (by simp [coRow]) (by rw [hxv];rfl) (by rw [hxv];rfl) (by kernel_rfl) ?_
      intro w2 hm2 f2
      exact ⟨undef,rfl,w',xc,hm1,hr1,hm2,f2⟩
    intro w7 x0 xf hJ hv _
    simp only [List.cons_append,List.nil_append,List.foldl_cons,List.foldl_nil]
    generalize xf 0 = x100
    generalize xf 1 = x101
    generalize xf 2 = x102
    generalize xf 3 = x103
    generalize xf 4 = x104
    generalize xf 5 = x105
    generalize xf 6 = x106
    generalize xf 7 = x107
    generalize xf 8 = x108
    generalize xf 9 = x109
    generalize xf 10 = x110
    generalize xf 11 = x111
    refine z2az ?_
    clear hv
    obtain ⟨w3,dv2,j1,j2,j3,j4⟩:=hJ
    obtain ⟨S2,hC20,hs20⟩:=hCN.decd j1 j2 j3 j4
    have hC2:=hide_ hC20
    have hs2:=hide_ (hs1.out.trans ((Stp.ofExt hX hC1.out.bnd).trans hs20))
    clear hC20 hs20 j1 j2 j3 j4 hCN hX f9
    go_wp2
    go_roundw
    case rel=>exact ⟨k + 1,S2,dv2,by go_num,hlt'.out,by rw [hsn.out];exact hC2.out,hs2.out⟩
    case measure=>have:=hlt'.out;simp [RowKit.intOf];omega
   ·have t8:(r.ix == (d.dec.length:Int)) = false:=by rw [hdD];simpa using hix
    have hsn:=hide_ (show { c with dec:=decOf c.dec (J.take (k + 1)) } = d from by rw [hst0,if_neg fun q=>hix q.2, ← hdd])
    clear hge hlt hd0 e0 hst0 hD0 hdd hdD hC0 hs0 hkd hix hk
    go_wp2_with ((first | (refine z3vz ?_;intro pa hrow0;have hrow:=hide_ hrow0;clear hrow0) | refine z3nz ?_ | (refine z4az ?_;intro g9 w5 hg9 hxa f9) | (refine z3ez ?_;refine w_astore Tryz.stRcd _ _ (us:=[.int .i64 r.kd, .int .i64 r.ix, .int .i64 r.vw, .int .i64 r.vl, .slice none 0 0]) rfl rfl rfl rfl rfl f9 rfl rfl (by intro u hu;simp at hu;rcases hu with rfl|rfl|rfl|rfl|rfl <;> rfl) ?_;intro w6 hm6 f6;have hX:=hm6.after hxa (fun i e=>e ▸ hg9);replace f9:=f6;clear hm6 hxa f6 hg9) | fail) <;> (try refine z0z ?_))
    refine zmz ?_;intro wd hxd;have HC:=hC1.out.ext (hX.trans hxd);have F9:=f9.ext hxd
    refine z1bz ?_
    refine LinL.step (s:=(.val (.bool false))) [(21,some 2),(23,some 0),(19,some 4)] rfl (by kernel_rfl) (op_yes (reads:=[(21,some 2),(23,some 0)]) 3 19 4 true rfl rfl rfl (op_runs rfl fun σ w' hx hg=>⟨(.bool false),by have h21 : σ.tmps.getD 21 undef = .int .i64 r.ix:=hg.1;have h23 : σ.tmps.getD 23 undef = .int .i64 (d.dec.length:Nat):=hg.2.1;unfold Runs execOp;simp [Act.eval,h21,h23,go_sem,t8],rfl⟩)) ?_
    refine LinL.step (s:=(.val (.bool false))) [(19,some 5),(24,some 0)] rfl (by kernel_rfl) (op_runs rfl fun σ w' hx hg=>⟨_,runs_pick_t (ρ := σ.eval) (w:=w') (.tmp 19) (.tmp 24) (.const (.bool false)) rfl hg.1 hg.2.1,rfl⟩) ?_
    intro wN hxN
    refine z15z ?_
    replace hX:=hX.trans (hxd.trans hxN);replace f9:=f9.ext (hxd.trans hxN);clear hxd hxN HC F9
    go_wp2
    clear f9
    go_roundw
    case rel=>exact ⟨k + 1,S,dv,by go_num,hlt'.out,by rw [hsn.out];exact hC1.out.ext hX,hs1.out.trans (Stp.ofExt hX hC1.out.bnd)⟩
    case measure=>have:=hlt'.out;simp [RowKit.intOf];omega
  ·have t6:(r.kd == 6) = false:=by simpa using hkd
   have hsn:=hide_ (show { c with dec:=decOf c.dec (J.take (k + 1)) } = d from by rw [hst0,if_neg fun q=>hkd q.1, ← hdd])
   clear hge hlt hd0 e0 hst0 hD0 hdd hdD hC0 hs0 hkd hk
   go_wp2_with ((first | (refine z3vz ?_;intro pa hrow0;have hrow:=hide_ hrow0;clear hrow0) | refine z3nz ?_ | (refine z4az ?_;intro g9 w5 hg9 hxa f9) | (refine z3ez ?_;refine w_astore Tryz.stRcd _ _ (us:=[.int .i64 r.kd, .int .i64 r.ix, .int .i64 r.vw, .int .i64 r.vl, .slice none 0 0]) rfl rfl rfl rfl rfl f9 rfl rfl (by intro u hu;simp at hu;rcases hu with rfl|rfl|rfl|rfl|rfl <;> rfl) ?_;intro w6 hm6 f6;have hX:=hm6.after hxa (fun i e=>e ▸ hg9);replace f9:=f6;clear hm6 hxa f6 hg9) | fail) <;> (try refine z0z ?_))
   refine zmz ?_;intro wd hxd;have HC:=hC1.out.ext (hX.trans hxd);have F9:=f9.ext hxd
   refine Ph.rest 0 10 (by kernel_rfl) ?_
   refine LinL.st [(5,none)] rfl (opfo 0 0 0 g9) ?_
   refine LinL.st [(16,some 0)] rfl (opld (.int .i64 r.kd) F9) ?_
   refine LinL.step (s:=(.val (.bool false))) [(17,some 0)] rfl (by kernel_rfl) (op_runs rfl fun σ w' hx hg=>⟨(.bool false),by have h17 : σ.tmps.getD 17 undef = .int .i64 r.kd:=hg.1;unfold Runs execOp;simp [Act.eval,h17,go_sem,t6],rfl⟩) ?_
   refine LinL.st [(18,some 0)] rfl (opcp (.val (.bool false))) ?_
   refine LinL.step (s := .val undef) [(5,none),(19,some 0)] rfl (by kernel_rfl) (op_no (reads:=[(5,none)]) 3 19 0 true rfl rfl rfl) ?_
   refine LinL.step (s := .val undef) [(20,some 0),(19,some 1)] rfl (by kernel_rfl) (op_no (reads:=[(20,some 0)]) 3 19 1 true rfl rfl rfl) ?_
   refine LinL.step (s := .val undef) [(0,none),(19,some 2)] rfl (by kernel_rfl) (op_no (reads:=[(0,none)]) 3 19 2 true rfl rfl rfl) ?_
   refine LinL.step (s := .val undef) [(22,some 0),(19,some 3)] rfl (by kernel_rfl) (op_no (reads:=[(22,some 0)]) 3 19 3 true rfl rfl rfl) ?_
   refine LinL.step (s := .val undef) [(21,some 2),(23,some 0),(19,some 4)] rfl (by kernel_rfl) (op_no (reads:=[(21,some 2),(23,some 0)]) 3 19 4 true rfl rfl rfl) ?_
   refine LinL.step (s:=(.val (.bool false))) [(19,some 5),(24,some 0)] rfl (by kernel_rfl) (op_runs rfl fun σ w' hx hg=>⟨_,runs_pick_f (ρ := σ.eval) (w:=w') (.tmp 19) (.tmp 24) (.const (.bool false)) rfl hg.1 rfl,rfl⟩) ?_
   intro wN hxN
   refine z15z ?_
   replace hX:=hX.trans (hxd.trans hxN);replace f9:=f9.ext (hxd.trans hxN);clear hxd hxN HC F9
   go_wp2
   clear f9
   go_roundw
   case rel=>exact ⟨k + 1,S,dv,by go_num,hlt'.out,by rw [hsn.out];exact hC1.out.ext hX,hs1.out.trans (Stp.ofExt hX hC1.out.bnd)⟩
   case measure=>have:=hlt'.out;simp [RowKit.intOf];omega
end Go.Proofs.YtdoeoncmhaihbaaGreat
namespace Go.Proofs.YtdoeoncmhaihbaaGreat
set_option maxHeartbeats 3200000
set_option maxRecDepth 100000
open Go.RowKit
theorem run_rcbuild (k i v x:Int) (w:World):(Instr.build 83 #[(0, .int .i64 k),(1, .int .i64 i),(2, .int .i64 v),(3, .int .i64 x)]).run Tryz.prog w = .ok (.agg (rcRow ⟨k,i,v,x⟩).toArray) w:=by
 kernel_rfl
theorem w_rcbuild {ops:Array Oper} {rest:List Oper} {o:Oper} {a:Act} {Q:Exit→Act→World→Prop} {w:World} (x0 x1 x2 x3:Operand) {k0 i0 v0 u0:Int} (hgd:o.guard = none) (ho:o.op = .build 83 #[(0,x0),(1,x1),(2,x2),(3,x3)]) (h0:a.eval x0 = .int .i64 k0) (h1:a.eval x1 = .int .i64 i0) (h2:a.eval x2 = .int .i64 v0) (h3:a.eval x3 = .int .i64 u0)
  (k:wpList Tryz.prog ops Q rest (a.put o.dst (.agg (rcRow ⟨k0,i0,v0,u0⟩).toArray)) w):wpList Tryz.prog ops Q (o :: rest) a w:=by
 have hr:=run_rcbuild k0 i0 v0 u0 w
 refine wpList_runs hgd ?_ k
 unfold Runs execOp
 simp [ho,h0,h1,h2,h3,hr]
theorem rc_one (r:RcV):∀ y ∈ [rcRow r], ∀ u∈y,u.oneCell' = true:=by
 intro y hy u hu
 rw [List.mem_singleton] at hy
 subst hy
 simp only [rcRow,List.mem_cons,List.not_mem_nil,or_false] at hu
 rcases hu with rfl|rfl|rfl|rfl|rfl <;> rfl
theorem rc_lb0 {a b n:Nat} (h9:(a + b + 1) * 56≤140737488355328) (e:n = a):(0 + n) * 56≤140737488355328:=Nat.le_trans (Nat.mul_le_mul_right 56 (show 0 + n≤a + b + 1 by omega)) h9
theorem rc_lb {a b c k n:Nat} (h9:(a + b + 1) * 56≤140737488355328) (e:n = a + c) (h1:c≤k) (h2:k < b):(n + 1) * 56≤140737488355328:=Nat.le_trans (Nat.mul_le_mul_right 56 (show n + 1≤a + b + 1 by omega)) h9
theorem rcs_one (J:List RcV):∀ y∈J.map rcRow, ∀ u∈y,u.oneCell' = true:=by
 intro y hy
 obtain ⟨r,_,rfl⟩:=List.mem_map.1 hy
 exact rc_one r _ (List.mem_singleton.2 rfl)
theorem recs_any {w:World} {jv av:Value} {J:List RcV} {l:List AcV} {me:Nat} (hj0:SlS w jv 5 (J.map rcRow)) (ha0:Recs 14 AcR w av l) (hb0:(J.length + l.length + 1) * 56≤140737488355328) :
  Calls Tryz.prog 13 #[jv,av, .int .i64 (me:Nat)] w fun e w' => ∃ v,e = .returned v∧Ext w w'∧RowN (fun k=>w.heap.size≤k) w' 83 5 v ((J ++ jour me l).map rcRow):=by
 refine z2rz ?_
 have hj:=hide_ hj0
 have ha:=hide_ ha0
 have hb:=hide_ hb0
 have hX:=Ext.refl w
 have hmax:=ha0.len_le
 unfold maxLen at hmax
 have hjl:=hide_ (show (0 + (J.map rcRow).length) * 56≤140737488355328 from rc_lb0 hb0 (List.length_map ..))
 clear hj0 ha0 hb0
 go_enter Tryz.func13,Tryz.ntmps13
 go_wp2_with ((first | (refine z5sz ?_;intro v0 w0 B hB1 hB2 hx hP;replace hX:=hX.trans hx;replace hP:=hP.mono (G:=fun k=>w.heap.size≤k) (fun q hq=>Nat.le_trans hB1 hq.1);clear hx hB1 hB2) | ((with_reducible refine at_bi ?_);refine w_napp0 Tryz.elRcd _ _ rfl rfl rfl rfl hP (hj.out.ext hX) (rcs_one J) hjl.out ?_;intro v1 w1 hm1 hP1;have hX1:=hm1.after hX (fun j e=>e);replace hP1:=hide_ (hP1.mono (G:=fun k=>w.heap.size≤k) fun q hq=>hq.elim id fun q1=>Nat.le_trans hX.size q1.1);clear hP hm1) | ((with_reducible refine at_bi ?_);refine w_rlen Tryz.elAct _ rfl rfl rfl (ha.out.ext AcR.stays hX1) ?_) | fail) <;> (try refine z0z ?_))
 go_loopw [7,16] (fun u7 i wr => ∃ k:Nat,i = .int .i64 k∧k≤l.length∧RowN (fun k=>w.heap.size≤k) wr 83 5 u7 ((J ++ jour me (l.take k)).map rcRow)∧Ext w wr) (fun _ i _=>l.length - (RowKit.intOf i).toNat)
 case atStart=>exact ⟨0,rfl,Nat.zero_le _,by simpa [jour] using hP1.out,hX1⟩
 case round =>
  obtain ⟨k,rfl,hk,hP,hX⟩:=hrel
  by_cases hge:l.length≤k
  ·obtain rfl:k = l.length:=by omega
   have t2:decide (l.length < l.length) = false:=by simp
   rw [List.take_length] at hP
   clear hge
   go_wp2
   go_ret
   exact Keep.intro ⟨_,rfl,hX,hP⟩
  have hlt:k < l.length:=by omega
  have t2:decide (k < l.length) = true:=decide_eq_true hlt
  obtain ⟨a,hd0⟩:∃ a,l[k]? = some a:=⟨_,List.getElem?_eq_getElem hlt⟩
  have ha1:=hide_ hd0
  have hlt':=hide_ hlt
  have hkb:k < 9223372036854775807:=by omega
  have e0:jour me (l.take (k + 1)) = jour me (l.take k) ++ (recV me a).toList:=by rw [List.take_add_one,hd0];exact jour_snoc me _ a
  have hjk:(jour me (l.take k)).length≤k:=by
   have:=List.length_filterMap_le (recV me) (l.take k)
   unfold jour
   rw [List.length_take] at this
   omega
  have e9:((J ++ jour me (l.take k)).map rcRow).length = J.length + (jour me (l.take k)).length:=by rw [List.length_map,List.length_append]
  have hlb:=hide_ (show (((J ++ jour me (l.take k)).map rcRow).length + 1) * 56≤140737488355328 from rc_lb hb.out e9 hjk hlt)
  clear e9
  by_cases c1:a.to = -1
  rotate_left
  ·have t1:(a.to == -1) = false:=by simpa using c1
   have e1:=hide_ (show jour me (l.take (k + 1)) = jour me (l.take k) from by rw [e0];unfold recV;rw [if_neg fun q=>c1 q.1];simp)
   clear hge hlt hd0 e0 hjk c1
   go_wp2_with ((first | (refine z4hz ?_;intro pa hrow;replace hrow:=hide_ hrow) | refine z3kz ?_ | (refine z4dz ?_;intro g9 wa hga hxa fa;replace hga:=hide_ hga;replace hxa:=hide_ hxa) | (refine z2zz ?_;intro wb hmb f9;have hx:=hmb.after hxa.out (fun j e=>e ▸ hga.out);replace hX:=hX.trans hx;replace hP:=hP.ext hx;clear hx hmb fa hga hxa) | refine z1ez ?_ | (refine z4ez ?_;intro g10 wa2 hgb hxb fa2;replace hgb:=hide_ hgb;replace hxb:=hide_ hxb;have hne:=hide_ (show g9≠g10 from fun e=>by have h1:=f9.lt;have h2:=hgb.out;omega);replace f9:=f9.ext hxb.out) | (refine z3fz ?_;intro wb2 hmb2 f10;replace f9:=f9.mod hmb2 (fun e=>hne.out e);have hx:=hmb2.after hxb.out (fun j e=>e ▸ hgb.out);replace hX:=hX.trans hx;replace hP:=hP.ext hx;clear hx hmb2 fa2 hgb hxb hne) | refine zlz ?_ | fail) <;> (try refine z0z ?_))
   clear f9 f10
   go_roundw
   case rel=>exact ⟨k + 1,by go_num,hlt'.out,by rw [e1.out];exact hP,hX⟩
   case measure=>have:=hlt'.out;simp [RowKit.intOf];omega
  have t1:(a.to == -1) = true:=by simpa using c1
  by_cases c2:a.m.fm = (me:Int)
  rotate_left
  ·have t3:(a.m.msg.fm == (me:Int)) = false:=by show (a.m.fm == (me:Int)) = false;simpa using c2
   have e1:=hide_ (show jour me (l.take (k + 1)) = jour me (l.take k) from by rw [e0];unfold recV;rw [if_neg fun q=>c2 q.2.1];simp)
   clear hge hlt hd0 e0 hjk c1 c2
   go_wp2_with ((first | (refine z4hz ?_;intro pa hrow;replace hrow:=hide_ hrow) | refine z3kz ?_ | (refine z4dz ?_;intro g9 wa hga hxa fa;replace hga:=hide_ hga;replace hxa:=hide_ hxa) | (refine z2zz ?_;intro wb hmb f9;have hx:=hmb.after hxa.out (fun j e=>e ▸ hga.out);replace hX:=hX.trans hx;replace hP:=hP.ext hx;clear hx hmb fa hga hxa) | refine z1ez ?_ | (refine z4ez ?_;intro g10 wa2 hgb hxb fa2;replace hgb:=hide_ hgb;replace hxb:=hide_ hxb;have hne:=hide_ (show g9≠g10 from fun e=>by have h1:=f9.lt;have h2:=hgb.out;omega);replace f9:=f9.ext hxb.out) | (refine z3fz ?_;intro wb2 hmb2 f10;replace f9:=f9.mod hmb2 (fun e=>hne.out e);have hx:=hmb2.after hxb.out (fun j e=>e ▸ hgb.out);replace hX:=hX.trans hx;replace hP:=hP.ext hx;clear hx hmb2 fa2 hgb hxb hne) | refine zlz ?_ | fail) <;> (try refine z0z ?_))
   clear f9 f10
   go_roundw
   case rel=>exact ⟨k + 1,by go_num,hlt'.out,by rw [e1.out];exact hP,hX⟩
   case measure=>have:=hlt'.out;simp [RowKit.intOf];omega
  have t3:(a.m.msg.fm == (me:Int)) = true:=by show (a.m.fm == (me:Int)) = true;simpa using c2
  by_cases c3:4≤a.m.kd
  rotate_left
  ·have t4:decide (4≤a.m.msg.kd) = false:=decide_eq_false c3
   have e1:=hide_ (show jour me (l.take (k + 1)) = jour me (l.take k) from by rw [e0];unfold recV;rw [if_neg fun q=>c3 q.2.2];simp)
   clear hge hlt hd0 e0 hjk c1 c2 c3
   go_wp2_with ((first | (refine z4hz ?_;intro pa hrow;replace hrow:=hide_ hrow) | refine z3kz ?_ | (refine z4dz ?_;intro g9 wa hga hxa fa;replace hga:=hide_ hga;replace hxa:=hide_ hxa) | (refine z2zz ?_;intro wb hmb f9;have hx:=hmb.after hxa.out (fun j e=>e ▸ hga.out);replace hX:=hX.trans hx;replace hP:=hP.ext hx;clear hx hmb fa hga hxa) | refine z1ez ?_ | (refine z4ez ?_;intro g10 wa2 hgb hxb fa2;replace hgb:=hide_ hgb;replace hxb:=hide_ hxb;have hne:=hide_ (show g9≠g10 from fun e=>by have h1:=f9.lt;have h2:=hgb.out;omega);replace f9:=f9.ext hxb.out) | (refine z3fz ?_;intro wb2 hmb2 f10;replace f9:=f9.mod hmb2 (fun e=>hne.out e);have hx:=hmb2.after hxb.out (fun j e=>e ▸ hgb.out);replace hX:=hX.trans hx;replace hP:=hP.ext hx;clear hx hmb2 fa2 hgb hxb hne) | refine zlz ?_ | fail) <;> (try refine z0z ?_))
   clear f9 f10
   go_roundw
   case rel=>exact ⟨k + 1,by go_num,hlt'.out,by rw [e1.out];exact hP,hX⟩
   case measure=>have:=hlt'.out;simp [RowKit.intOf];omega
  have t4:decide (4≤a.m.msg.kd) = true:=decide_eq_true c3
  have e1:=hide_ (show (J ++ jour me (l.take (k + 1))).map rcRow = (J ++ jour me (l.take k)).map rcRow ++ [rcRow ⟨a.m.kd,a.m.ix,a.m.vw,a.m.vl⟩] from by rw [e0];unfold recV;rw [if_pos ⟨c1,c2,c3⟩];simp)
  clear hge hlt hd0 e0 hjk c1 c2 c3
  go_wp2_with ((first | (refine z4hz ?_;intro pa hrow;replace hrow:=hide_ hrow) | refine z3kz ?_ | (refine z4dz ?_;intro g9 wa hga hxa fa;replace hga:=hide_ hga;replace hxa:=hide_ hxa) | (refine z2zz ?_;intro wb hmb f9;have hx:=hmb.after hxa.out (fun j e=>e ▸ hga.out);replace hX:=hX.trans hx;replace hP:=hP.ext hx;clear hx hmb fa hga hxa) | refine z1ez ?_ | (refine z4ez ?_;intro g10 wa2 hgb hxb fa2;replace hgb:=hide_ hgb;replace hxb:=hide_ hxb;have hne:=hide_ (show g9≠g10 from fun e=>by have h1:=f9.lt;have h2:=hgb.out;omega);replace f9:=f9.ext hxb.out) | (refine z3fz ?_;intro wb2 hmb2 f10;replace f9:=f9.mod hmb2 (fun e=>hne.out e);have hx:=hmb2.after hxb.out (fun j e=>e ▸ hgb.out);replace hX:=hX.trans hx;replace hP:=hP.ext hx;clear hx hmb2 fa2 hgb hxb hne) | refine zlz ?_ | refine w_rcbuild _ _ _ _ rfl rfl rfl rfl rfl rfl ?_ | ((with_reducible refine at_lit ?_);refine w_nnew Tryz.elRcd [rcRow ⟨a.m.kd,a.m.ix,a.m.vw,a.m.vl⟩] rfl rfl rfl (by simp [rcRow]) rfl (by omega) ?_;intro v2 w2 B hB1 hB2 hx hn2;replace hX:=hX.trans hx;replace hP:=hP.ext hx;clear hx hB1 hB2) | ((with_reducible refine at_bi ?_);refine w_napp Tryz.elRcd _ _ rfl rfl rfl rfl hP hn2.slS (by simp) (rc_one _) hlb.out ?_;intro v3 w3 hm3 hP3) | fail) <;> (try refine z0z ?_))
  have hX3:=hide_ (hm3.after hX (fun j e=>e))
  have hP4:=hide_ (hP3.mono fun q hq=>hq.elim id fun q1=>Nat.le_trans hX.size q1.1)
  clear hm3 hP3 hP hn2 f9 f10
  go_roundw
  case rel=>exact ⟨k + 1,by go_num,hlt'.out,by rw [e1.out];exact hP4.out,hX3.out⟩
  case measure=>have:=hlt'.out;simp [RowKit.intOf];omega
def NoTx (u:Value):Prop := ∀ w,Recs 2 TxR w u []
theorem noTx_of {w:World} {u:Value} (h:Recs 2 TxR w u []):NoTx u:=fun w'=>by
 obtain ⟨rows,⟨A,c,e,g1,g2,_⟩,hl,_⟩:=h
 have:rows = []:=List.eq_nil_of_length_eq_zero hl
 subst this
 exact ⟨[],⟨A,c,e,g1,g2,fun k row hk=>by simp at hk⟩,rfl,fun k row d hk=>by simp at hk⟩
def SntR (F:Nat→Prop) (w:World) (tv:Value) (M:List MsV):Prop := ∃ us:List Value,us.length = M.length∧(∀ u∈us,NoTx u)∧RowN F w 42 13 tv ((M.zip us).map fun x=>mRow x.1.msg x.2)
section
variable {F G:Nat→Prop} {w w':World} {tv:Value} {M:List MsV}
theorem SntR.mono (h:SntR F w tv M) (hs:∀ k,F k→G k):SntR G w tv M:=by
 obtain ⟨us,h1,h2,h3⟩:=h
 exact ⟨us,h1,h2,h3.mono hs⟩
theorem SntR.mod (h:SntR F w tv M) (hm:Mod G w w') (hd:∀ k,F k→¬ G k):SntR F w' tv M:=by
 obtain ⟨us,h1,h2,h3⟩:=h
 exact ⟨us,h1,h2,h3.mod hm hd⟩
theorem SntR.ext (h:SntR F w tv M) (hx:Ext w w'):SntR F w' tv M:=by
 obtain ⟨us,h1,h2,h3⟩:=h
 exact ⟨us,h1,h2,h3.ext hx⟩
theorem SntR.of (h:RowN F w 42 13 tv []):SntR F w tv []:=⟨[],rfl,(by intro u hu;cases hu),h⟩
end
structure NetW (Z:Nat→Nat) (w:World) (pv jv tv dv:Value) (ps:List Nat) (js:List Value) (S:Nat→Nat→Nat) (cs:Nat→CoD) (J:Nat→List RcV) (M:List MsV) (D:List Int):Prop where
 bnd:∀ k,Z k≠0→k < w.heap.size
 prow:Row (fun k=>Z k = 1) w 32 pv (ps.map fun p=>.pointer (some ⟨p,0,none⟩))
 jrow:Row (fun k=>Z k = 2) w 34 jv js
 core:∀ i p,ps[i]? = some p→Cor (S i) w p (cs i)∧∀ k,S i k≤6
 own:∀ i k,S i k≠0→Z k = 10 + 2 * i
 jour:∀ i v,js[i]? = some v→RowN (fun k=>Z k = 11 + 2 * i) w 83 5 v ((J i).map rcRow)
 snt:SntR (fun k=>Z k = 3) w tv M
 dcd:Row (fun k=>Z k = 4) w 3 dv (i64s D)
section
variable {Z:Nat→Nat} {w w':World} {pv jv tv dv:Value} {ps:List Nat} {js:List Value} {S:Nat→Nat→Nat} {cs:Nat→CoD} {J:Nat→List RcV} {M:List MsV} {D:List Int} {G:Nat→Prop}
theorem Cor.mod {S:Nat→Nat} {p:Nat} {c:CoD} (h:Cor S w p c) (hm:Mod G w w') (hG:∀ k,1≤S k→S k≤6→¬ G k):Cor S w' p c:=by
 obtain ⟨a,b,q,x,y,h⟩:=h
 exact ⟨a,b,q,x,y,h.mod hm hG⟩
theorem NetW.mod (h:NetW Z w pv jv tv dv ps js S cs J M D) (hm:Mod G w w') (hG:∀ k,G k→Z k = 0):NetW Z w' pv jv tv dv ps js S cs J M D where
 bnd k hk:=Nat.lt_of_lt_of_le (h.bnd k hk) hm.size
 prow:=h.prow.mod hm fun k hk g=>by have:=hG k g;omega
 jrow:=h.jrow.mod hm fun k hk g=>by have:=hG k g;omega
 core i p hp:=⟨(h.core i p hp).1.mod hm fun k h1 _ g=>by have:=hG k g;have:=h.own i k (by omega);omega,(h.core i p hp).2⟩
 own:=h.own
 jour i v hv:=(h.jour i v hv).mod hm fun k hk g=>by have:=hG k g;omega
 snt:=h.snt.mod hm fun k hk g=>by have:=hG k g;omega
 dcd:=h.dcd.mod hm fun k hk g=>by have:=hG k g;omega
theorem NetW.ext (h:NetW Z w pv jv tv dv ps js S cs J M D) (hx:Ext w w'):NetW Z w' pv jv tv dv ps js S cs J M D:=h.mod (hx.mod fun _=>False) fun _=>False.elim
theorem NetW.step (h:NetW Z w pv jv tv dv ps js S cs J M D) {i p:Nat} (hp:ps[i]? = some p) {S':Nat→Nat} {d:CoD} (hs:Stp 1 6 (S i) S' w w') (hc:Cor S' w' p d) (h6:∀ k,S' k≤6) :
  NetW (fun k=>if w.heap.size≤k∧S' k≠0 then 10 + 2 * i else Z k) w' pv jv tv dv ps js (fun j=>if j = i then S' else S j) (fun j=>if j = i then d else cs j) J M D:=by
 have hG:∀ k,(1≤S i k∧S i k≤6)→Z k = 10 + 2 * i:=fun k g=>h.own i k (by omega)
 have hz:∀ {k z:Nat},Z k = z→z≠0→(if w.heap.size≤k∧S' k≠0 then 10 + 2 * i else Z k) = z:=fun {k z} e e0=>by
  have:=h.bnd k (by omega)
  rw [if_neg (by omega)];exact e
 refine ⟨fun k hk => ?_, ?_, ?_,fun j r hr => ?_,fun j k hk => ?_,fun j v hv => ?_, ?_, ?_⟩
 ·by_cases q:w.heap.size≤k∧S' k≠0
  ·exact hs.bnd k q.2
  ·have hk':Z k≠0:=by exact fun e=>hk ((if_neg q).trans e)
   exact Nat.lt_of_lt_of_le (h.bnd k hk') hs.size
 ·exact (h.prow.mod hs.mod fun k hk g=>by have:=hG k g;omega).mono fun k hk=>hz hk (by omega)
 ·exact (h.jrow.mod hs.mod fun k hk g=>by have:=hG k g;omega).mono fun k hk=>hz hk (by omega)
 ·by_cases e:j = i
  ·subst e
   rw [hp] at hr
   injection hr with hr
   subst hr
   simp only [if_true]
   exact ⟨hc,h6⟩
  ·simp only [if_neg e]
   exact ⟨(h.core j r hr).1.mod hs.mod fun k h1 _ g=>by have:=hG k g;have:=h.own j k (by omega);omega,(h.core j r hr).2⟩
 ·by_cases e:j = i
  ·subst e
   simp only [if_true] at hk
   by_cases q:w.heap.size≤k
   ·rw [if_pos ⟨q,hk⟩]
   ·rw [hs.same k (by omega)] at hk
    exact hz (h.own j k hk) (by omega)
  ·simp only [if_neg e] at hk
   exact hz (h.own j k hk) (by omega)
 ·exact ((h.jour j v hv).mod hs.mod fun k hk g=>by have:=hG k g;omega).mono fun k hk=>hz hk (by omega)
 ·exact (h.snt.mod hs.mod fun k hk g=>by have:=hG k g;omega).mono fun k hk=>hz hk (by omega)
 ·exact (h.dcd.mod hs.mod fun k hk g=>by have:=hG k g;omega).mono fun k hk=>hz hk (by omega)
theorem NetW.zone (h:NetW Z w pv jv tv dv ps js S cs J M D) {F:Nat→Prop} {z:Nat} (hF:∀ k,F k→Z k = 0∧k < w.heap.size) [DecidablePred F]:NetW (fun k=>if F k then z else Z k) w pv jv tv dv ps js S cs J M D:=by
 have hz:∀ {k y:Nat},Z k = y→y≠0→(if F k then z else Z k) = y:=fun {k y} e e0=>by
  rw [if_neg fun q=>by have:=(hF k q).1;omega];exact e
 refine ⟨fun k hk => ?_,h.prow.mono fun k hk=>hz hk (by omega),h.jrow.mono fun k hk=>hz hk (by omega),h.core,fun j k hk=>hz (h.own j k hk) (by omega),fun j v hv=>(h.jour j v hv).mono fun k hk=>hz hk (by omega),h.snt.mono fun k hk=>hz hk (by omega),h.dcd.mono fun k hk=>hz hk (by omega)⟩
 by_cases q:F k
 ·exact (hF k q).2
 ·exact h.bnd k fun e=>hk ((if_neg q).trans e)
theorem NetW.setJ (h:NetW Z w pv jv tv dv ps js S cs J M D) (hm:Mod (fun k=>Z k = 2) w w') {i:Nat} {v:Value} {l:List RcV} (hr:Row (fun k=>Z k = 2) w' 34 jv (js.set i v)) (hv:RowN (fun k=>Z k = 11 + 2 * i) w 83 5 v (l.map rcRow)) :
  NetW Z w' pv jv tv dv ps (js.set i v) S cs (fun j=>if j = i then l else J j) M D where
 bnd k hk:=Nat.lt_of_lt_of_le (h.bnd k hk) hm.size
 prow:=h.prow.mod hm fun k hk g=>by omega
 jrow:=hr
 core j p hp:=⟨(h.core j p hp).1.mod hm fun k h1 _ g=>by have:=h.own j k (by omega);omega,(h.core j p hp).2⟩
 own:=h.own
 jour j u hu:=by
  by_cases e:j = i
  ·subst e
   obtain ⟨hj,e2⟩:=List.getElem?_eq_some_iff.1 hu
   rw [List.getElem_set_self] at e2
   subst e2
   simp only [if_true]
   exact hv.mod hm fun k hk g=>by omega
  ·rw [List.getElem?_set_ne (Ne.symm e)] at hu
   simp only [if_neg e]
   exact (h.jour j u hu).mod hm fun k hk g=>by omega
 snt:=h.snt.mod hm fun k hk g=>by omega
 dcd:=h.dcd.mod hm fun k hk g=>by omega
theorem NetW.setP (h:NetW Z w pv jv tv dv ps js S cs J M D) (hm:Mod (fun k=>Z k = 1) w w') {i p:Nat} {S':Nat→Nat} {d:CoD} (hr:Row (fun k=>Z k = 1) w' 32 pv ((ps.set i p).map fun p=>.pointer (some ⟨p,0,none⟩))) (hc:Cor S' w p d) (h6:∀ k,S' k≤6) (ho:∀ k,S' k≠0→Z k = 10 + 2 * i) :
  NetW Z w' pv jv tv dv (ps.set i p) js (fun j=>if j = i then S' else S j) (fun j=>if j = i then d else cs j) J M D where
 bnd k hk:=Nat.lt_of_lt_of_le (h.bnd k hk) hm.size
 prow:=hr
 jrow:=h.jrow.mod hm fun k hk g=>by omega
 core j r hr:=by
  by_cases e:j = i
  ·subst e
   obtain ⟨hj,e2⟩:=List.getElem?_eq_some_iff.1 hr
   rw [List.getElem_set_self] at e2
   subst e2
   simp only [if_true]
   exact ⟨hc.mod hm fun k h1 _ g=>by have:=ho k (by omega);omega,h6⟩
  ·rw [List.getElem?_set_ne (Ne.symm e)] at hr
   simp only [if_neg e]
   exact ⟨(h.core j r hr).1.mod hm fun k h1 _ g=>by have:=h.own j k (by omega);omega,(h.core j r hr).2⟩
 own j k hk:=by
  by_cases e:j = i
  ·subst e
   simp only [if_true] at hk
   exact ho k hk
  ·simp only [if_neg e] at hk
   exact h.own j k hk
 jour j u hu:=(h.jour j u hu).mod hm fun k hk g=>by omega
 snt:=h.snt.mod hm fun k hk g=>by omega
 dcd:=h.dcd.mod hm fun k hk g=>by omega
theorem NetW.send (h:NetW Z w pv jv tv dv ps js S cs J M D) (hm:Mod (fun k=>Z k = 3) w w') {tv':Value} {m:MsV} (hr:SntR (grow (fun k=>Z k = 3) w w') w' tv' (M ++ [m])) :
  NetW (fun k=>if w.heap.size≤k∧k < w'.heap.size then 3 else Z k) w' pv jv tv' dv ps js S cs J (M ++ [m]) D:=by
 have hz:∀ {k y:Nat},Z k = y→y≠0→(if w.heap.size≤k∧k < w'.heap.size then 3 else Z k) = y:=fun {k y} e e0=>by
  have:=h.bnd k (by omega)
  rw [if_neg (by omega)];exact e
 refine ⟨fun k hk => ?_,(h.prow.mod hm fun k hk g=>by omega).mono fun k hk=>hz hk (by omega),(h.jrow.mod hm fun k hk g=>by omega).mono fun k hk=>hz hk (by omega),fun j p hp=>⟨(h.core j p hp).1.mod hm fun k h1 _ g=>by have:=h.own j k (by omega);omega,(h.core j p hp).2⟩,fun j k hk=>hz (h.own j k hk) (by omega),fun j v hv=>((h.jour j v hv).mod hm fun k hk g=>by omega).mono fun k hk=>hz hk (by omega),hr.mono fun k hk => ?_,(h.dcd.mod hm fun k hk g=>by omega).mono fun k hk=>hz hk (by omega)⟩
 ·by_cases q:w.heap.size≤k∧k < w'.heap.size
  ·exact q.2
  ·exact Nat.lt_of_lt_of_le (h.bnd k fun e=>hk ((if_neg q).trans e)) hm.size
 ·rcases hk with hk | hk
  ·exact hz hk (by omega)
  ·exact if_pos hk
theorem NetW.decide (h:NetW Z w pv jv tv dv ps js S cs J M D) (hm:Mod (fun k=>Z k = 4) w w') {dv':Value} {l:List Int} (hr:Row (grow (fun k=>Z k = 4) w w') w' 3 dv' (i64s l)) :
  NetW (fun k=>if w.heap.size≤k∧k < w'.heap.size then 4 else Z k) w' pv jv tv dv' ps js S cs J M l:=by
 have hz:∀ {k y:Nat},Z k = y→y≠0→(if w.heap.size≤k∧k < w'.heap.size then 4 else Z k) = y:=fun {k y} e e0=>by
  have:=h.bnd k (by omega)
  rw [if_neg (by omega)];exact e
 refine ⟨fun k hk => ?_,(h.prow.mod hm fun k hk g=>by omega).mono fun k hk=>hz hk (by omega),(h.jrow.mod hm fun k hk g=>by omega).mono fun k hk=>hz hk (by omega),fun j p hp=>⟨(h.core j p hp).1.mod hm fun k h1 _ g=>by have:=h.own j k (by omega);omega,(h.core j p hp).2⟩,fun j k hk=>hz (h.own j k hk) (by omega),fun j v hv=>((h.jour j v hv).mod hm fun k hk g=>by omega).mono fun k hk=>hz hk (by omega),(h.snt.mod hm fun k hk g=>by omega).mono fun k hk=>hz hk (by omega),hr.mono fun k hk => ?_⟩
 ·by_cases q:w.heap.size≤k∧k < w'.heap.size
  ·exact q.2
  ·exact Nat.lt_of_lt_of_le (h.bnd k fun e=>hk ((if_neg q).trans e)) hm.size
 ·rcases hk with hk | hk
  ·exact hz hk (by omega)
  ·exact if_pos hk
end
end Go.Proofs.YtdoeoncmhaihbaaGreat
namespace Go.Proofs.YtdoeoncmhaihbaaGreat
set_option maxRecDepth 100000
section
variable {bad:Nat→Prop} {N:Int→Prop} {t:List Int} {base most:Int} {L:List AcV} {cs:Nat→CoD}
structure Clus (bad:Nat→Prop) (N:Int→Prop) (t:List Int) (base most:Int) (cs:Nat→CoD) (L:List AcV):Prop where
 core:∀ i,i < t.length→¬ bad i→(CoD.new i t base most).Like (cs i)∧(cs i).out = []∧Both bad N L (cs i).idx (cs i)
 log:LogInv bad t L
 ok:∀ a∈L,a.m.Ok N
theorem Clus.new (ht:StOk t) (h0:N 0):Clus bad N t base most (fun i=>CoD.new i t base most) []:=by
 refine ⟨fun i hi hb=>⟨CoD.Like.refl _,rfl,⟨⟨?_,LogInv.nil bad t⟩,Aux.new ht hi h0,Int.le_refl _,fun a ha=>by cases ha⟩⟩,LogInv.nil bad t,fun a ha=>by cases ha⟩
 exact ⟨ht,hi,hb,fun k w i x q=>(by cases q),fun k w v hk=>⟨fun q=>(by cases q),fun q=>(by cases q)⟩,fun k w j v q=>(by cases q),fun j v q=>(by cases q),rfl,fun k x w v hk q=>(by cases q),(show (0:Int)≤0∧(0:Int)≤3 by decide),(show (0:Int)≤0∧(0:Int)≤1000 by decide),fun _ _ _=>rfl,fun k w q=>absurd rfl q,fun q=>(by cases q),fun q=>(by cases q), .inl ⟨rfl,fun w v q=>(by cases q)⟩⟩
theorem NodeInv.others {me:Nat} {dec:List Int} {view step:Int} {T:Tab} {said:Nat→Option Int} {lv lw:Int} (M:List AcV):∀ {L:List AcV},NodeInv bad t me dec view step T said lv lw L→(∀ a∈M,a.m.fm≠(me:Int))→NodeInv bad t me dec view step T said lv lw (L ++ M):=by
 induction M with
 | nil=>intro L h _;rw [List.append_nil];exact h
 | cons a M ih =>
  intro L h hM
  have e:L ++ a :: M = (L ++ [a]) ++ M:=by simp
  rw [e]
  exact ih (h.snoc (.inl (hM a (List.mem_cons_self ..)))) fun b hb=>hM b (List.mem_cons_of_mem _ hb)
theorem Clus.move (h:Clus bad N t base most cs L) {i:Nat} (hi:i < t.length) (hb:¬ bad i) {d:CoD} {i0:Int} (hl:(CoD.new i t base most).Like d) (hd:Both bad N L i0 d) :
  Clus bad N t base most (fun j=>if j = i then d.flush else cs j) (L ++ d.out):=by
 have hme:d.me = i:=hl.1
 have ht:d.t = t:=hl.2.1
 have hout:∀ a∈d.out,a.m.fm = (i:Int)∧a.m.Ok N:=fun a ha=>by
  have:=hd.2.2.2 a ha
  rw [← hme];exact ⟨this.2.1,this.1⟩
 have hlog:LogInv bad t (L ++ d.out):=by have:=hd.1.2;rwa [ht] at this
 refine ⟨fun j hj hbj => ?_,hlog,fun a ha => ?_⟩
 ·by_cases e:j = i
  ·subst e
   simp only [if_true]
   exact ⟨hl,rfl,both_flush hd⟩
  ·simp only [if_neg e]
   obtain ⟨h1,h2,h3,h4⟩:=h.core j hj hbj
   refine ⟨h1,h2,⟨?_, ?_⟩,h4⟩
   ·have:=h3.1
    rw [h2,List.append_nil] at this ⊢
    refine this.others d.out fun a ha => ?_
    rw [(hout a ha).1,h1.1]
    show (i:Int)≠(j:Int)
    omega
   ·rw [h2,List.append_nil,h1.2.1];exact hlog
 ·rcases List.mem_append.1 ha with ha | ha
  ·exact h.ok a ha
  ·exact (hout a ha).2
theorem Clus.handle (h:Clus bad N t base most cs L) (h0:N 0) (hN:∀ x,N x → -1≤x) {i:Nat} (hi:i < t.length) (hb:¬ bad i) {m:MsV} (hm:m.Ok N) (hf:0≤m.fm) (hs:bad m.fm.toNat∨∃ a∈L,a.m = m) (kn:List Int) :
  Clus bad N t base most (fun j=>if j = i then ((cs i).handle m kn).flush else cs j) (L ++ ((cs i).handle m kn).out):=by
 obtain ⟨h1,_,h3⟩:=h.core i hi hb
 exact h.move hi hb (h1.trans (like_handle _ m kn)) (both_handle h3 hm h0 hN hf hs kn)
theorem Clus.tick (h:Clus bad N t base most cs L) (h0:N 0) (hN:∀ x,N x → -1≤x) {i:Nat} (hi:i < t.length) (hb:¬ bad i) {tip:Int} (ht:N tip) (kn:List Int) :
  Clus bad N t base most (fun j=>if j = i then ((cs i).tick kn tip).flush else cs j) (L ++ ((cs i).tick kn tip).out):=by
 obtain ⟨h1,_,h3⟩:=h.core i hi hb
 exact h.move hi hb (h1.trans (like_tick _ kn tip)) (both_tick h3 h0 hN ht kn)
theorem Clus.restore (h:Clus bad N t base most cs L) (h0:N 0) {i:Nat} (hi:i < t.length) (hb:¬ bad i) :
  Clus bad N t base most (fun j=>if j = i then (CoD.new i t base most).restore (jour i L) else cs j) L:=by
 obtain ⟨h1,h2,h3⟩:=h.core i hi hb
 obtain ⟨e1,e2,e3,e4⟩:=h1
 have:=both_restore h3 h2 h0 h.ok
 rw [e1,e2,e3,e4] at this
 have key:=h.move hi hb (d:=(CoD.new i t base most).restore (jour i L)) (like_restore _ _) this
 have ho:((CoD.new i t base most).restore (jour i L)).out = []:=rfl
 rw [ho,List.append_nil] at key
 exact key
theorem jour_app (me:Nat) (K M:List AcV):jour me (K ++ M) = jour me K ++ jour me M:=by unfold jour;rw [List.filterMap_append]
theorem jour_other {me:Nat} {M:List AcV} (h:∀ a∈M,a.m.fm≠(me:Int)):jour me M = []:=by
 unfold jour
 rw [List.filterMap_eq_nil_iff]
 intro a ha
 unfold recV
 rw [if_neg fun q=>h a ha q.2.1]
theorem Clus.decIn (h:Clus bad N t base most cs L) {i:Nat} (hi:i < t.length) (hb:¬ bad i) {y:Nat} {v:Int} (hy:(cs i).dec[y]? = some v):DecIn L i y v:=by
 obtain ⟨h1,h2,h3,_⟩:=h.core i hi hb
 have:=h3.1.decIn hy
 rw [h2,List.append_nil,h1.1] at this
 exact this
theorem Clus.agree (h:Clus bad N t base most cs L) (ht:StOk t) (hf:FewB t bad) {i j:Nat} (hi:i < t.length) (hb:¬ bad i) (hj:¬ bad j) {y:Nat} {v w:Int} (hv:(cs i).dec[y]? = some v) (hw:DecIn L j y w):v = w :=
 h.log.agree ht hf hb hj (h.decIn hi hb hv) hw
end
end Go.Proofs.YtdoeoncmhaihbaaGreat
namespace Go.Proofs.YtdoeoncmhaihbaaGreat
set_option maxRecDepth 100000
structure AgInv (bad:Nat→Prop) (N:Int→Prop) (t:List Int) (base most:Int) (cs:Nat→CoD) (L:List AcV) (J:Nat→List RcV) (M:List MsV) (D:List Int):Prop where
 clus:Clus bad N t base most cs L
 jr:∀ i,i < t.length→¬ bad i→J i = jour i L
 ms:M = L.map (·.m)
 dd:∀ (y:Nat) (w:Int),D[y]? = some w→∃ j, ¬ bad j∧DecIn L j y w
section
variable {bad:Nat→Prop} {N:Int→Prop} {t:List Int} {base most:Int} {cs:Nat→CoD} {L:List AcV} {J:Nat→List RcV} {M:List MsV} {D:List Int}
theorem AgInv.act (h:AgInv bad N t base most cs L J M D) {i:Nat} {d:CoD} (hc:Clus bad N t base most (fun j=>if j = i then d.flush else cs j) (L ++ d.out)) (hf:∀ a∈d.out,a.m.fm = (i:Int)) :
  AgInv bad N t base most (fun j=>if j = i then d.flush else cs j) (L ++ d.out) (fun j=>if j = i then J i ++ jour i d.out else J j) (M ++ d.out.map (·.m)) D:=by
 refine ⟨hc,fun j hj hb => ?_,by rw [h.ms,List.map_append],fun y w hw => ?_⟩
 ·rw [jour_app]
  by_cases e:j = i
  ·subst e;simp only [if_true];rw [h.jr j hj hb]
  ·simp only [if_neg e];rw [jour_other (me:=j) (M:=d.out) fun a ha=>by have:=hf a ha;omega,List.append_nil];exact h.jr j hj hb
 ·obtain ⟨j,hb,q⟩:=h.dd y w hw
  exact ⟨j,hb,q.mono fun a ha=>List.mem_append_left _ ha⟩
theorem AgInv.anew (h:AgInv bad N t base most cs L J M D) {i:Nat} {d:CoD} (hc:Clus bad N t base most (fun j=>if j = i then d else cs j) L) :
  AgInv bad N t base most (fun j=>if j = i then d else cs j) L J M D:=⟨hc,h.jr,h.ms,h.dd⟩
theorem AgInv.same (h:AgInv bad N t base most cs L J M D) (ht:StOk t) (hf:FewB t bad) {i:Nat} (hi:i < t.length) (hb:¬ bad i) {y:Nat} {v w:Int} (hv:(cs i).dec[y]? = some v) (hw:D[y]? = some w):w = v:=by
 obtain ⟨j,hbj,q⟩:=h.dd y w hw
 exact (h.clus.agree ht hf hi hb hbj hv q).symm
theorem AgInv.more (h:AgInv bad N t base most cs L J M D) {i:Nat} (hi:i < t.length) (hb:¬ bad i) {v:Int} (hv:(cs i).dec[D.length]? = some v):AgInv bad N t base most cs L J M (D ++ [v]):=by
 refine ⟨h.clus,h.jr,h.ms,fun y w hw => ?_⟩
 by_cases e:y < D.length
 ·rw [List.getElem?_append_left e] at hw
  exact h.dd y w hw
 ·rw [List.getElem?_append_right (by omega)] at hw
  have e2:y = D.length:=by
   by_cases q:y - D.length = 0
   ·omega
   ·rw [List.getElem?_eq_none (by simp;omega)] at hw;cases hw
  subst e2
  rw [Nat.sub_self] at hw
  have e3:v = w:=by simpa using hw
  subst e3
  exact ⟨i,hb,h.clus.decIn hi hb hv⟩
theorem AgInv.start (ht:StOk t) (h0:N 0):AgInv bad N t base most (fun i=>CoD.new i t base most) [] (fun _ => []) [] [] :=
 ⟨Clus.new ht h0,fun _ _ _=>rfl,rfl,fun y w hw=>by simp at hw⟩
theorem AgInv.sent (h:AgInv bad N t base most cs L J M D) {k:Nat} {m:MsV} (hm:M[k]? = some m):m.Ok N∧∃ a∈L,a.m = m:=by
 rw [h.ms,List.getElem?_map] at hm
 cases ha:L[k]? with
 | none=>rw [ha] at hm;cases hm
 | some a =>
  rw [ha] at hm
  have e:a.m = m:=by simpa using hm
  have hL:=List.mem_of_getElem? ha
  exact ⟨e ▸ h.clus.ok a hL,a,hL,e⟩
end
end Go.Proofs.YtdoeoncmhaihbaaGreat
namespace Go.Proofs.YtdoeoncmhaihbaaGreat
set_option maxRecDepth 100000
open Go.RowKit
set_option maxHeartbeats 800000 in
theorem SameInts_any (va vb:Value) (l:List Int) (w:World) (ha:Ints w va l) (hb:Ints w vb l) :
  Calls Tryz.prog 15 #[va,vb] w fun e w'=>e = .returned (.bool true)∧Ext w w':=by
 refine z2rz ?_
 have hlm:=ha.len_le
 unfold maxLen at hlm
 go_enter Tryz.func15,Tryz.ntmps15
 go_wp2_with (first | (refine i_len (.tmp 6) rfl rfl (v:=va) rfl ha ?_) | (refine i_len (.tmp 8) rfl rfl (v:=vb) rfl hb ?_) | (refine i_len (.tmp 11) rfl rfl (v:=va) rfl ha ?_))
 go_loopw [13] (fun i wr => ∃ (k:Nat),i = .int .i64 k∧k≤l.length∧Ext w wr)
  (fun i _=>l.length - (intOf i).toNat)
 case atStart=>exact ⟨0,rfl,Nat.zero_le _,Ext.refl _⟩
 case round =>
  obtain ⟨k,rfl,hk,hX⟩:=hrel
  by_cases hlt:k < l.length
  ·have K0:=(ha.ext hX).ext (Ext.refl _).drew
   have K1:=(hb.ext hX).ext (Ext.refl _).drew
   go_wp2
   refine wp_region_linR (by kernel_rfl) (by kernel_rfl) ?_
   refine LinR.step (s:=(.val (va))) [(0,none)] rfl (by kernel_rfl) (op_out 0 (va) rfl (.inl rfl) rfl) ?_
   refine LinR.step (s:=(.val (.int .i64 k))) [(5,none)] rfl (by kernel_rfl) (op_out 5 (.int .i64 k) rfl (.inl rfl) rfl) ?_
   refine LinR.step (s:=(Sp.ptr (.int .i64 (l[k])))) [(16,some 1),(17,some 0)] rfl (by kernel_rfl) (op_runs rfl fun σ w' hx hg=>rptri (ρ := σ.eval) (w:=w') (.tmp 16) (.tmp 17) rfl (hg.1) (K0.ext hx) k hg.2.1 hlt rfl) ?_
   refine LinR.step (s:=(.val (.int .i64 (l[k]:Int)))) [(18,some 0)] rfl (by kernel_rfl) (op_runs rfl fun σ w' hx hg=>⟨_,runs_load (ρ := σ.eval) (w:=w') (.tmp 18) rfl Tryz.underlying3 rfl hg.1,rfl⟩) ?_
   refine LinR.step (s:=(.val (vb))) [(1,none)] rfl (by kernel_rfl) (op_out 1 (vb) rfl (.inl rfl) rfl) ?_
   refine LinR.step (s:=(.val (.int .i64 k))) [(5,none)] rfl (by kernel_rfl) (op_out 5 (.int .i64 k) rfl (.inl rfl) rfl) ?_
   refine LinR.step (s:=(Sp.ptr (.int .i64 (l[k])))) [(20,some 1),(21,some 0)] rfl (by kernel_rfl) (op_runs rfl fun σ w' hx hg=>rptri (ρ := σ.eval) (w:=w') (.tmp 20) (.tmp 21) rfl (hg.1) (K1.ext hx) k hg.2.1 hlt rfl) ?_
   refine LinR.step (s:=(.val (.int .i64 (l[k]:Int)))) [(22,some 0)] rfl (by kernel_rfl) (op_runs rfl fun σ w' hx hg=>⟨_,runs_load (ρ := σ.eval) (w:=w') (.tmp 22) rfl Tryz.underlying3 rfl hg.1,rfl⟩) ?_
   refine LinR.step (s:=(.val (.bool false))) [(19,some 4),(23,some 0)] rfl (by kernel_rfl) (op_runs rfl fun σ w' hx hg=>⟨(.bool false),by have h19 : σ.tmps.getD 19 undef = .int .i64 (l[k]:Int):=hg.1;have h23 : σ.tmps.getD 23 undef = .int .i64 (l[k]:Int):=hg.2.1;unfold Runs execOp;simp [Act.eval,h19,h23,go_sem],rfl⟩) ?_
   intro wN hxN
   simp only [Fin',Sp.ptr,List.reverse_cons,List.reverse_nil,List.nil_append,List.cons_append]
   intro q18 hq18 q22 hq22
   refine z0z ?_
   go_wp2
   go_roundw
   case rel=>exact ⟨k + 1,by go_num,by omega,(hX.trans (Ext.refl _).drew).trans hxN⟩
   case measure=>simp [intOf];omega
  ·go_wp2
   go_ret
   exact z4pz
end Go.Proofs.YtdoeoncmhaihbaaGreat
