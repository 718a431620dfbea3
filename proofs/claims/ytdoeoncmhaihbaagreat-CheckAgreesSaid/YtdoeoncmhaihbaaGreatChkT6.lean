/- Whether enough are in a later view; a vote on what is proposed; a vote on what is prepared; what is prepared too late. -/
import Derived.Test.YtdoeoncmhaihbaaGreatPk15
namespace Go.Proofs.YtdoeoncmhaihbaaGreat
set_option maxHeartbeats 3200000
set_option maxRecDepth 100000
open Go.RowKit
def CoD.cat1 (c:CoD):Option CoD:=if c.step = 0∨c.T.aheadOf c.t c.view≤c.view then none else some (c.enter (c.T.aheadOf c.t c.view))
def CoD.pre1 (c:CoD) (kn:List Int):Option CoD:=if c.step = 1 then c.step3 kn else none
def CoD.com1 (c:CoD) (kn:List Int):Option CoD:=if c.step = 2 then (match c.T.mostOf c.t 4 c.view with
 | none=>none
 | some x=>if x = -1∨CoD.knows kn x = true then some (c.comm x) else none) else none
def CoD.rev1 (c:CoD) (kn:List Int):Option CoD:=if c.step = 3 then (match c.T.mostOf c.t 4 c.view with
 | none=>none
 | some x=>if x ≠ -1∧CoD.knows kn x = true∧c.vw < c.view then some (c.valid x) else none) else none
theorem mostB {S:Nat→Nat} {w:World} {p q gp gs:Nat} {sv dv:Value} {c:CoD} {v:Int} (h:CorW S w p sv dv q gp gs c) (hv0:In64 v) {x:Int} {o:Bool} (hr:(c.T.mostOf c.t 4 v).getD 0 = x∧(c.T.mostOf c.t 4 v).isSome = o) :
  Calls Tryz.prog 64 #[.pointer (some ⟨p,0,none⟩), .int .i64 v] w fun e w'=>e = .returned (.tuple #[.int .i64 x, .bool o])∧Ext w w':=by
 refine (mostPrepared_core h hv0 rfl).mono ?_
 rintro e w' ⟨rfl,hx⟩
 rw [hr.1,hr.2]
 exact ⟨rfl,hx⟩
theorem catchUp_turn {S:Nat→Nat} {w:World} {tb p q gp gs:Nat} {kv ov sv dv:Value} {kn:List Int} {c:CoD} (h:TrnW S w tb p kv ov sv dv q gp gs kn c) (hvw0 : -1≤c.vw) (hlen0:(c.out.length + 1) * 128≤140737488355328) {r:Option CoD} (hr0:c.cat1 = r) :
  Calls Tryz.prog 43 #[.pointer (some ⟨tb,0,none⟩)] w fun e w'=>e = .returned (.bool r.isSome)∧∃ S',Trn S' w' tb p kv kn (r.getD c)∧Stp 1 8 S S' w w':=by
 refine z2rz ?_
 have hT:=hide_ h
 have hX:=Ext.refl w
 have hvw:=hide_ hvw0
 have hlen:=hide_ hlen0
 unfold CoD.cat1 at hr0
 obtain ⟨ah,hah0⟩:∃ a,c.T.aheadOf c.t c.view = a:=⟨_,rfl⟩
 have hah:=hide_ hah0
 rw [hah0] at hr0
 by_cases h1:c.step = 0
 ·have t1:(c.step == 0) = true:=by simp [h1]
  rw [if_pos (.inl h1)] at hr0
  subst hr0
  clear h hvw0 hlen0 hah0 h1
  go_enter Tryz.func43,Tryz.ntmps43
  go_wp2
  refine zmz ?_;intro wd hxd;have HT:=hT.out.ext (hX.trans hxd);have FT:=HT.turn;have F0:=HT.cor.obj
  refine zjz ?_
  intro wN hxN
  refine z15z ?_
  replace hX:=hX.trans (hxd.trans hxN);clear hxd hxN HT FT F0
  go_wp2_with ((first | go_big_skip | refine z1qz ?_ | refine zhz ?_ | refine ziz ?_ | fail) <;> (try refine z0z ?_))
  go_ret
  exact z1kz
 have t1:(c.step == 0) = false:=by simp [h1]
 by_cases h2:ah≤c.view
 ·have t2:decide (ah≤c.view) = true:=decide_eq_true h2
  rw [if_pos (.inr h2)] at hr0
  subst hr0
  clear h hvw0 hlen0 hah0 h1 h2
  go_enter Tryz.func43,Tryz.ntmps43
  go_wp2
  refine zmz ?_;intro wd hxd;have HT:=hT.out.ext (hX.trans hxd);have FT:=HT.turn;have F0:=HT.cor.obj
  refine zjz ?_
  intro wN hxN
  refine z15z ?_
  replace hX:=hX.trans (hxd.trans hxN);clear hxd hxN HT FT F0
  go_wp2_with ((first | go_big_skip | refine z1qz ?_ | refine zhz ?_ | refine ziz ?_ | fail) <;> (try refine z0z ?_))
  go_ret
  exact z1kz
 have t2:decide (ah≤c.view) = false:=decide_eq_false h2
 rw [if_neg (fun q=>q.elim h1 h2)] at hr0
 subst hr0
 have har:=hide_ (show 0≤ah∧ah≤1000 from by rw [← hah0];exact ahead_le (by rw [hah0];omega))
 clear h hvw0 hlen0 hah0 h1 h2
 go_enter Tryz.func43,Tryz.ntmps43
 go_wp2
 refine zmz ?_;intro wd hxd;have HT:=hT.out.ext (hX.trans hxd);have FT:=HT.turn;have F0:=HT.cor.obj
 refine zjz ?_
 intro wN hxN
 refine z15z ?_
 replace hX:=hX.trans (hxd.trans hxN);clear hxd hxN HT FT F0
 go_wp2_with ((first | go_big_skip | (go_at_call 31;refine (enter_turn (hT.out.ext hX) har.out hvw.out hlen.out).mono ?_;rintro e w2 ⟨rfl,S2,ov2,hT2,hs2⟩) | refine z1qz ?_ | refine zhz ?_ | refine ziz ?_ | fail) <;> (try refine z0z ?_))
 go_ret
 exact Keep.intro ⟨rfl,S2,⟨_,_,_,_,_,_,hT2⟩,(Stp.ofExt hX hT.out.bnd).trans hs2⟩
theorem prepare_turn {S:Nat→Nat} {w:World} {tb p q gp gs:Nat} {kv ov sv dv:Value} {kn:List Int} {c:CoD} (h:TrnW S w tb p kv ov sv dv q gp gs kn c) (hv0:0≤c.view∧c.view≤1000) (hpN:∀ w p,c.prop w = some p→In64 p.1∧In64 p.2) (hlen0:(c.out.length + 1) * 128≤140737488355328) {r:Option CoD} (hr0:c.pre1 kn = r) :
  Calls Tryz.prog 44 #[.pointer (some ⟨tb,0,none⟩)] w fun e w'=>e = .returned (.bool r.isSome)∧∃ S',Trn S' w' tb p kv kn (r.getD c)∧Stp 1 8 S S' w w':=by
 refine z2rz ?_
 have hT:=hide_ h
 have hX:=Ext.refl w
 have hlen:=hide_ hlen0
 have hv64:=hide_ (show In64 c.view from by unfold In64;omega)
 obtain ⟨n,D,_,hpo0,hpm0⟩:=h.cor.prp
 have hpo:=hide_ hpo0
 have hpm:=hide_ hpm0
 unfold CoD.pre1 CoD.step3 at hr0
 cases hpp:c.prop c.view with
 | none =>
  obtain ⟨rx,hrx⟩:∃ r:Int,r = 0:=⟨_,rfl⟩
  obtain ⟨ru,hru⟩:∃ r:Int,r = 0:=⟨_,rfl⟩
  obtain ⟨ok,hok⟩:∃ b,b = false:=⟨_,rfl⟩
  have hpr:=hide_ (show (c.prop c.view).getD (0,0) = (rx,ru)∧(c.prop c.view).isSome = ok from by rw [hpp,hrx,hru,hok];exact ⟨rfl,rfl⟩)
  have hok':=hide_ hok
  rw [hpp] at hr0
  have hrn:none = r:=by rw [← hr0];split <;> rfl
  subst hrn
  by_cases h1:c.step = 1
  ·have t1:(c.step != 1) = false:=by simp [h1]
   clear h hv0 hpN hlen0 hr0 hpo0 hpm0 hpp hrx hru hok h1
   go_enter Tryz.func44,Tryz.ntmps44
   go_wp2
   refine wp_region_val [0,1,2,3,4,5,6,7,8,9,10,11,12,13,14,15,16,17,18,19,20,22] (fun i=>([6,7,8,9,10,11,12,13,14,15,16,17,18,19,20,21,22,5,23,24,3,0,4]:List Nat).getD i 0) (fun i x=>x = ([(.pointer (some ⟨tb,0,none⟩)),(.pointer (some ⟨tb,0,none⟩)),(.pointer (some ⟨tb,0,none⟩)),(.pointer (some ⟨p,0,none⟩)),(.pointer (some ⟨p,0,none⟩)),(.pointer (some ⟨p,6,none⟩)),(.pointer (some ⟨p,10,none⟩)),(.map (some gp)),(.pointer (some ⟨tb,0,none⟩)),(.pointer (some ⟨tb,0,none⟩)),(.pointer (some ⟨tb,0,none⟩)),(.pointer (some ⟨p,0,none⟩)),(.pointer (some ⟨p,0,none⟩)),(.pointer (some ⟨p,6,none⟩)),(.pointer (some ⟨p,6,none⟩)),(.int .i64 c.view),(.tuple #[.agg #[.int .i64 rx, .int .i64 ru], .bool ok]),(.tuple #[.agg #[.int .i64 rx, .int .i64 ru], .bool ok]),(.agg #[.int .i64 rx, .int .i64 ru]),(.bool ok),undef,undef,(.bool ok)]:List Value).getD i undef) 20 21 [.int .i64 0, .int .i64 0] (fun cs=>cs = [.int .i64 rx, .int .i64 ru]) (by kernel_rfl) (by kernel_rfl) (by kernel_rfl) (by decide) (by decide) (by kernel_rfl) (by intro i hi;show _ < 68;revert i;decide) (by kernel_rfl) (by decide) (by kernel_rfl) ?_ ?_ ?_ ?_
   ·intro i hi ha b w' hx hout hdep
    rcases (show i = 0∨i = 1∨i = 2∨i = 3∨i = 4∨i = 5∨i = 6∨i = 7∨i = 8∨i = 9∨i = 10∨i = 11∨i = 12∨i = 13∨i = 14∨i = 15∨i = 16∨i = 17∨i = 18∨i = 19∨i = 22 by simp at hi;omega) with rfl|rfl|rfl|rfl|rfl|rfl|rfl|rfl|rfl|rfl|rfl|rfl|rfl|rfl|rfl|rfl|rfl|rfl|rfl|rfl|rfl
    ·have e0:b.tmps.getD 0 undef = .pointer (some ⟨tb,0,none⟩):=hout 0 (by decide)
     exact z6tz
    ·have e6:b.tmps.getD 6 undef = .pointer (some ⟨tb,0,none⟩):=hdep 0 (by decide) (by decide) (by kernel_rfl)
     exact z70z
    ·have e7:b.tmps.getD 7 undef = .pointer (some ⟨tb,0,none⟩):=hdep 1 (by decide) (by decide) (by kernel_rfl)
     exact z73z
    ·have e8:b.tmps.getD 8 undef = .pointer (some ⟨tb,0,none⟩):=hdep 2 (by decide) (by decide) (by kernel_rfl)
     exact z74z
    ·have e9:b.tmps.getD 9 undef = .pointer (some ⟨p,0,none⟩):=hdep 3 (by decide) (by decide) (by kernel_rfl)
     exact z71z
    ·have e10:b.tmps.getD 10 undef = .pointer (some ⟨p,0,none⟩):=hdep 4 (by decide) (by decide) (by kernel_rfl)
     exact z75z
    ·have e11:b.tmps.getD 11 undef = .pointer (some ⟨p,6,none⟩):=hdep 5 (by decide) (by decide) (by kernel_rfl)
     exact z76z
    ·have e12:b.tmps.getD 12 undef = .pointer (some ⟨p,10,none⟩):=hdep 6 (by decide) (by decide) (by kernel_rfl)
     exact z77z
    ·have e0:b.tmps.getD 0 undef = .pointer (some ⟨tb,0,none⟩):=hout 0 (by decide)
     exact z6tz
    ·have e14:b.tmps.getD 14 undef = .pointer (some ⟨tb,0,none⟩):=hdep 8 (by decide) (by decide) (by kernel_rfl)
     exact z6yz
    ·have e15:b.tmps.getD 15 undef = .pointer (some ⟨tb,0,none⟩):=hdep 9 (by decide) (by decide) (by kernel_rfl)
     exact z78z
    ·have e16:b.tmps.getD 16 undef = .pointer (some ⟨tb,0,none⟩):=hdep 10 (by decide) (by decide) (by kernel_rfl)
     exact z79z
    ·have e17:b.tmps.getD 17 undef = .pointer (some ⟨p,0,none⟩):=hdep 11 (by decide) (by decide) (by kernel_rfl)
     exact z6zz
    ·have e18:b.tmps.getD 18 undef = .pointer (some ⟨p,0,none⟩):=hdep 12 (by decide) (by decide) (by kernel_rfl)
     exact z7az
    ·have e19:b.tmps.getD 19 undef = .pointer (some ⟨p,6,none⟩):=hdep 13 (by decide) (by decide) (by kernel_rfl)
     exact z7bz
    ·have e20:b.tmps.getD 20 undef = .pointer (some ⟨p,6,none⟩):=hdep 14 (by decide) (by decide) (by kernel_rfl)
     exact z7cz
    ·have e13:b.tmps.getD 13 undef = .map (some gp):=hdep 7 (by decide) (by decide) (by kernel_rfl)
     have e21:b.tmps.getD 21 undef = .int .i64 c.view:=hdep 15 (by decide) (by decide) (by kernel_rfl)
     exact z2oz
    ·have e22:b.tmps.getD 22 undef = .tuple #[.agg #[.int .i64 rx, .int .i64 ru], .bool ok]:=hdep 16 (by decide) (by decide) (by kernel_rfl)
     exact z5az
    ·have e5:b.tmps.getD 5 undef = .tuple #[.agg #[.int .i64 rx, .int .i64 ru], .bool ok]:=hdep 17 (by decide) (by decide) (by kernel_rfl)
     exact z1wz
    ·have e5:b.tmps.getD 5 undef = .tuple #[.agg #[.int .i64 rx, .int .i64 ru], .bool ok]:=hdep 17 (by decide) (by decide) (by kernel_rfl)
     exact z1wz
    ·have e24:b.tmps.getD 24 undef = .bool ok:=hdep 19 (by decide) (by decide) (by kernel_rfl)
     exact z7dz
   ·intro b w'
    refine z6uz ?_
    intro g w2 hg hx f
    exact z5gz
   ·intro b w' g hx e3 f hdep
    have e23:b.tmps.getD 23 undef = .agg #[.int .i64 rx, .int .i64 ru]:=hdep 18 (by decide) (by decide) (by kernel_rfl)
    refine zgz ?_
    refine w_astoreN Tryz.stPrep (.tmp 3) (.tmp 23) (us:=[.int .i64 rx, .int .i64 ru]) rfl rfl rfl e3 e23 f rfl rfl (by intro u hu;simp at hu;rcases hu with rfl|rfl <;> rfl) ?_
    intro w2 hm f2
    exact z4uz
   intro w8 x hx8 hv hc
   obtain ⟨g3,cs,eal,hg8,f3,rfl⟩:=hc
   have ek22:x 22 = .bool ok:=hv 22 (by decide) (by decide)
   simp only [List.foldl_cons,List.foldl_nil,eal,ek22]
   generalize x 0 = x100
   generalize x 1 = x101
   generalize x 2 = x102
   generalize x 3 = x103
   generalize x 4 = x104
   generalize x 5 = x105
   generalize x 6 = x106
   generalize x 7 = x107
   generalize x 8 = x108
   generalize x 9 = x109
   generalize x 10 = x110
   generalize x 11 = x111
   generalize x 12 = x112
   generalize x 13 = x113
   generalize x 14 = x114
   generalize x 15 = x115
   generalize x 16 = x116
   generalize x 17 = x117
   generalize x 18 = x118
   generalize x 19 = x119
   refine z1cz ?_
   clear hv eal ek22
   have hX:=hx8;rw [hok'.out]
   go_wp2
   refine zmz ?_;intro wd hxd;have HT:=hT.out.ext (hX.trans hxd);have FT:=HT.turn;have F0:=HT.cor.obj;have F3:=f3.ext hxd
   refine z6pz ?_
   refine z13z ?_
   refine z23z ?_
   refine LinL.st [(4,none),(34,some 0)] rfl (op_yes (reads:=[(4,none)]) 9 34 0 false rfl rfl rfl (opmv (.bool false))) ?_
   refine LinL.step (s:=(.val (.bool true))) [(35,some 0),(34,some 1)] rfl (by kernel_rfl) (op_yes (reads:=[(35,some 0)]) 9 34 1 false rfl rfl rfl (op_runs rfl fun σ w' hx hg=>⟨(.bool true),by have h35 : σ.tmps.getD 35 undef = .bool false:=hg.1;unfold Runs execOp;simp [Act.eval,h35,go_sem],rfl⟩)) ?_
   refine z4wz ?_
   refine zbz ?_
   intro wN hxN
   refine z15z ?_
   replace hX:=hX.trans (hxd.trans hxN);replace f3:=f3.ext (hxd.trans hxN);clear hxd hxN HT FT F0 F3
   go_wp2
   go_ret
   exact z1kz
  ·have t1:(c.step != 1) = true:=by simp [h1]
   clear h hv0 hpN hlen0 hr0 hpo0 hpm0 hpp hrx hru hok h1
   go_enter Tryz.func44,Tryz.ntmps44
   go_wp2
   refine wp_region_val [0,1,2,3,4,5,6,7,8,9,10,11,12,13,14,15,16,17,18,19,20,22] (fun i=>([6,7,8,9,10,11,12,13,14,15,16,17,18,19,20,21,22,5,23,24,3,0,4]:List Nat).getD i 0) (fun i x=>x = ([(.pointer (some ⟨tb,0,none⟩)),(.pointer (some ⟨tb,0,none⟩)),(.pointer (some ⟨tb,0,none⟩)),(.pointer (some ⟨p,0,none⟩)),(.pointer (some ⟨p,0,none⟩)),(.pointer (some ⟨p,6,none⟩)),(.pointer (some ⟨p,10,none⟩)),(.map (some gp)),(.pointer (some ⟨tb,0,none⟩)),(.pointer (some ⟨tb,0,none⟩)),(.pointer (some ⟨tb,0,none⟩)),(.pointer (some ⟨p,0,none⟩)),(.pointer (some ⟨p,0,none⟩)),(.pointer (some ⟨p,6,none⟩)),(.pointer (some ⟨p,6,none⟩)),(.int .i64 c.view),(.tuple #[.agg #[.int .i64 rx, .int .i64 ru], .bool ok]),(.tuple #[.agg #[.int .i64 rx, .int .i64 ru], .bool ok]),(.agg #[.int .i64 rx, .int .i64 ru]),(.bool ok),undef,undef,(.bool ok)]:List Value).getD i undef) 20 21 [.int .i64 0, .int .i64 0] (fun cs=>cs = [.int .i64 rx, .int .i64 ru]) (by kernel_rfl) (by kernel_rfl) (by kernel_rfl) (by decide) (by decide) (by kernel_rfl) (by intro i hi;show _ < 68;revert i;decide) (by kernel_rfl) (by decide) (by kernel_rfl) ?_ ?_ ?_ ?_
   ·intro i hi ha b w' hx hout hdep
    rcases (show i = 0∨i = 1∨i = 2∨i = 3∨i = 4∨i = 5∨i = 6∨i = 7∨i = 8∨i = 9∨i = 10∨i = 11∨i = 12∨i = 13∨i = 14∨i = 15∨i = 16∨i = 17∨i = 18∨i = 19∨i = 22 by simp at hi;omega) with rfl|rfl|rfl|rfl|rfl|rfl|rfl|rfl|rfl|rfl|rfl|rfl|rfl|rfl|rfl|rfl|rfl|rfl|rfl|rfl|rfl
    ·have e0:b.tmps.getD 0 undef = .pointer (some ⟨tb,0,none⟩):=hout 0 (by decide)
     exact z6tz
    ·have e6:b.tmps.getD 6 undef = .pointer (some ⟨tb,0,none⟩):=hdep 0 (by decide) (by decide) (by kernel_rfl)
     exact z70z
    ·have e7:b.tmps.getD 7 undef = .pointer (some ⟨tb,0,none⟩):=hdep 1 (by decide) (by decide) (by kernel_rfl)
     exact z73z
    ·have e8:b.tmps.getD 8 undef = .pointer (some ⟨tb,0,none⟩):=hdep 2 (by decide) (by decide) (by kernel_rfl)
     exact z74z
    ·have e9:b.tmps.getD 9 undef = .pointer (some ⟨p,0,none⟩):=hdep 3 (by decide) (by decide) (by kernel_rfl)
     exact z71z
    ·have e10:b.tmps.getD 10 undef = .pointer (some ⟨p,0,none⟩):=hdep 4 (by decide) (by decide) (by kernel_rfl)
     exact z75z
    ·have e11:b.tmps.getD 11 undef = .pointer (some ⟨p,6,none⟩):=hdep 5 (by decide) (by decide) (by kernel_rfl)
     exact z76z
    ·have e12:b.tmps.getD 12 undef = .pointer (some ⟨p,10,none⟩):=hdep 6 (by decide) (by decide) (by kernel_rfl)
     exact z77z
    ·have e0:b.tmps.getD 0 undef = .pointer (some ⟨tb,0,none⟩):=hout 0 (by decide)
     exact z6tz
    ·have e14:b.tmps.getD 14 undef = .pointer (some ⟨tb,0,none⟩):=hdep 8 (by decide) (by decide) (by kernel_rfl)
     exact z6yz
    ·have e15:b.tmps.getD 15 undef = .pointer (some ⟨tb,0,none⟩):=hdep 9 (by decide) (by decide) (by kernel_rfl)
     exact z78z
    ·have e16:b.tmps.getD 16 undef = .pointer (some ⟨tb,0,none⟩):=hdep 10 (by decide) (by decide) (by kernel_rfl)
     exact z79z
    ·have e17:b.tmps.getD 17 undef = .pointer (some ⟨p,0,none⟩):=hdep 11 (by decide) (by decide) (by kernel_rfl)
     exact z6zz
    ·have e18:b.tmps.getD 18 undef = .pointer (some ⟨p,0,none⟩):=hdep 12 (by decide) (by decide) (by kernel_rfl)
     exact z7az
    ·have e19:b.tmps.getD 19 undef = .pointer (some ⟨p,6,none⟩):=hdep 13 (by decide) (by decide) (by kernel_rfl)
     exact z7bz
    ·have e20:b.tmps.getD 20 undef = .pointer (some ⟨p,6,none⟩):=hdep 14 (by decide) (by decide) (by kernel_rfl)
     exact z7cz
    ·have e13:b.tmps.getD 13 undef = .map (some gp):=hdep 7 (by decide) (by decide) (by kernel_rfl)
     have e21:b.tmps.getD 21 undef = .int .i64 c.view:=hdep 15 (by decide) (by decide) (by kernel_rfl)
     exact z2oz
    ·have e22:b.tmps.getD 22 undef = .tuple #[.agg #[.int .i64 rx, .int .i64 ru], .bool ok]:=hdep 16 (by decide) (by decide) (by kernel_rfl)
     exact z5az
    ·have e5:b.tmps.getD 5 undef = .tuple #[.agg #[.int .i64 rx, .int .i64 ru], .bool ok]:=hdep 17 (by decide) (by decide) (by kernel_rfl)
     exact z1wz
    ·have e5:b.tmps.getD 5 undef = .tuple #[.agg #[.int .i64 rx, .int .i64 ru], .bool ok]:=hdep 17 (by decide) (by decide) (by kernel_rfl)
     exact z1wz
    ·have e24:b.tmps.getD 24 undef = .bool ok:=hdep 19 (by decide) (by decide) (by kernel_rfl)
     exact z7dz
   ·intro b w'
    refine z6uz ?_
    intro g w2 hg hx f
    exact z5gz
   ·intro b w' g hx e3 f hdep
    have e23:b.tmps.getD 23 undef = .agg #[.int .i64 rx, .int .i64 ru]:=hdep 18 (by decide) (by decide) (by kernel_rfl)
    refine zgz ?_
    refine w_astoreN Tryz.stPrep (.tmp 3) (.tmp 23) (us:=[.int .i64 rx, .int .i64 ru]) rfl rfl rfl e3 e23 f rfl rfl (by intro u hu;simp at hu;rcases hu with rfl|rfl <;> rfl) ?_
    intro w2 hm f2
    exact z4uz
   intro w8 x hx8 hv hc
   obtain ⟨g3,cs,eal,hg8,f3,rfl⟩:=hc
   have ek22:x 22 = .bool ok:=hv 22 (by decide) (by decide)
   simp only [List.foldl_cons,List.foldl_nil,eal,ek22]
   generalize x 0 = x100
   generalize x 1 = x101
   generalize x 2 = x102
   generalize x 3 = x103
   generalize x 4 = x104
   generalize x 5 = x105
   generalize x 6 = x106
   generalize x 7 = x107
   generalize x 8 = x108
   generalize x 9 = x109
   generalize x 10 = x110
   generalize x 11 = x111
   generalize x 12 = x112
   generalize x 13 = x113
   generalize x 14 = x114
   generalize x 15 = x115
   generalize x 16 = x116
   generalize x 17 = x117
   generalize x 18 = x118
   generalize x 19 = x119
   refine z1cz ?_
   clear hv eal ek22
   have hX:=hx8;rw [hok'.out]
   go_wp2
   refine zmz ?_;intro wd hxd;have HT:=hT.out.ext (hX.trans hxd);have FT:=HT.turn;have F0:=HT.cor.obj;have F3:=f3.ext hxd
   refine z6pz ?_
   refine z13z ?_
   refine z1gz ?_
   intro wN hxN
   refine z15z ?_
   replace hX:=hX.trans (hxd.trans hxN);replace f3:=f3.ext (hxd.trans hxN);clear hxd hxN HT FT F0 F3
   go_wp2
   go_ret
   exact z1kz
 | some pp =>
  obtain ⟨rx,ru⟩:=pp
  obtain ⟨ok,hok⟩:∃ b,b = true:=⟨_,rfl⟩
  have hpr:=hide_ (show (c.prop c.view).getD (0,0) = (rx,ru)∧(c.prop c.view).isSome = ok from by rw [hpp,hok];exact ⟨rfl,rfl⟩)
  have hok':=hide_ hok
  have hu64:=hide_ (hpN _ _ hpp).2
  have hrx64:=(hpN _ _ hpp).1
  rw [hpp] at hr0
  simp only at hr0
  by_cases h1:c.step = 1
  rotate_left
  ·have t1:(c.step != 1) = true:=by simp [h1]
   rw [if_neg h1] at hr0
   subst hr0
   clear h hv0 hpN hlen0 hpo0 hpm0 hpp hok h1 hrx64
   go_enter Tryz.func44,Tryz.ntmps44
   go_wp2
   refine wp_region_val [0,1,2,3,4,5,6,7,8,9,10,11,12,13,14,15,16,17,18,19,20,22] (fun i=>([6,7,8,9,10,11,12,13,14,15,16,17,18,19,20,21,22,5,23,24,3,0,4]:List Nat).getD i 0) (fun i x=>x = ([(.pointer (some ⟨tb,0,none⟩)),(.pointer (some ⟨tb,0,none⟩)),(.pointer (some ⟨tb,0,none⟩)),(.pointer (some ⟨p,0,none⟩)),(.pointer (some ⟨p,0,none⟩)),(.pointer (some ⟨p,6,none⟩)),(.pointer (some ⟨p,10,none⟩)),(.map (some gp)),(.pointer (some ⟨tb,0,none⟩)),(.pointer (some ⟨tb,0,none⟩)),(.pointer (some ⟨tb,0,none⟩)),(.pointer (some ⟨p,0,none⟩)),(.pointer (some ⟨p,0,none⟩)),(.pointer (some ⟨p,6,none⟩)),(.pointer (some ⟨p,6,none⟩)),(.int .i64 c.view),(.tuple #[.agg #[.int .i64 rx, .int .i64 ru], .bool ok]),(.tuple #[.agg #[.int .i64 rx, .int .i64 ru], .bool ok]),(.agg #[.int .i64 rx, .int .i64 ru]),(.bool ok),undef,undef,(.bool ok)]:List Value).getD i undef) 20 21 [.int .i64 0, .int .i64 0] (fun cs=>cs = [.int .i64 rx, .int .i64 ru]) (by kernel_rfl) (by kernel_rfl) (by kernel_rfl) (by decide) (by decide) (by kernel_rfl) (by intro i hi;show _ < 68;revert i;decide) (by kernel_rfl) (by decide) (by kernel_rfl) ?_ ?_ ?_ ?_
   ·intro i hi ha b w' hx hout hdep
    rcases (show i = 0∨i = 1∨i = 2∨i = 3∨i = 4∨i = 5∨i = 6∨i = 7∨i = 8∨i = 9∨i = 10∨i = 11∨i = 12∨i = 13∨i = 14∨i = 15∨i = 16∨i = 17∨i = 18∨i = 19∨i = 22 by simp at hi;omega) with rfl|rfl|rfl|rfl|rfl|rfl|rfl|rfl|rfl|rfl|rfl|rfl|rfl|rfl|rfl|rfl|rfl|rfl|rfl|rfl|rfl
    ·have e0:b.tmps.getD 0 undef = .pointer (some ⟨tb,0,none⟩):=hout 0 (by decide)
     exact z6tz
    ·have e6:b.tmps.getD 6 undef = .pointer (some ⟨tb,0,none⟩):=hdep 0 (by decide) (by decide) (by kernel_rfl)
     exact z70z
    ·have e7:b.tmps.getD 7 undef = .pointer (some ⟨tb,0,none⟩):=hdep 1 (by decide) (by decide) (by kernel_rfl)
     exact z73z
    ·have e8:b.tmps.getD 8 undef = .pointer (some ⟨tb,0,none⟩):=hdep 2 (by decide) (by decide) (by kernel_rfl)
     exact z74z
    ·have e9:b.tmps.getD 9 undef = .pointer (some ⟨p,0,none⟩):=hdep 3 (by decide) (by decide) (by kernel_rfl)
     exact z71z
    ·have e10:b.tmps.getD 10 undef = .pointer (some ⟨p,0,none⟩):=hdep 4 (by decide) (by decide) (by kernel_rfl)
     exact z75z
    ·have e11:b.tmps.getD 11 undef = .pointer (some ⟨p,6,none⟩):=hdep 5 (by decide) (by decide) (by kernel_rfl)
     exact z76z
    ·have e12:b.tmps.getD 12 undef = .pointer (some ⟨p,10,none⟩):=hdep 6 (by decide) (by decide) (by kernel_rfl)
     exact z77z
    ·have e0:b.tmps.getD 0 undef = .pointer (some ⟨tb,0,none⟩):=hout 0 (by decide)
     exact z6tz
    ·have e14:b.tmps.getD 14 undef = .pointer (some ⟨tb,0,none⟩):=hdep 8 (by decide) (by decide) (by kernel_rfl)
     exact z6yz
    ·have e15:b.tmps.getD 15 undef = .pointer (some ⟨tb,0,none⟩):=hdep 9 (by decide) (by decide) (by kernel_rfl)
     exact z78z
    ·have e16:b.tmps.getD 16 undef = .pointer (some ⟨tb,0,none⟩):=hdep 10 (by decide) (by decide) (by kernel_rfl)
     exact z79z
    ·have e17:b.tmps.getD 17 undef = .pointer (some ⟨p,0,none⟩):=hdep 11 (by decide) (by decide) (by kernel_rfl)
     exact z6zz
    ·have e18:b.tmps.getD 18 undef = .pointer (some ⟨p,0,none⟩):=hdep 12 (by decide) (by decide) (by kernel_rfl)
     exact z7az
    ·have e19:b.tmps.getD 19 undef = .pointer (some ⟨p,6,none⟩):=hdep 13 (by decide) (by decide) (by kernel_rfl)
     exact z7bz
    ·have e20:b.tmps.getD 20 undef = .pointer (some ⟨p,6,none⟩):=hdep 14 (by decide) (by decide) (by kernel_rfl)
     exact z7cz
    ·have e13:b.tmps.getD 13 undef = .map (some gp):=hdep 7 (by decide) (by decide) (by kernel_rfl)
     have e21:b.tmps.getD 21 undef = .int .i64 c.view:=hdep 15 (by decide) (by decide) (by kernel_rfl)
     exact z2oz
    ·have e22:b.tmps.getD 22 undef = .tuple #[.agg #[.int .i64 rx, .int .i64 ru], .bool ok]:=hdep 16 (by decide) (by decide) (by kernel_rfl)
     exact z5az
    ·have e5:b.tmps.getD 5 undef = .tuple #[.agg #[.int .i64 rx, .int .i64 ru], .bool ok]:=hdep 17 (by decide) (by decide) (by kernel_rfl)
     exact z1wz
    ·have e5:b.tmps.getD 5 undef = .tuple #[.agg #[.int .i64 rx, .int .i64 ru], .bool ok]:=hdep 17 (by decide) (by decide) (by kernel_rfl)
     exact z1wz
    ·have e24:b.tmps.getD 24 undef = .bool ok:=hdep 19 (by decide) (by decide) (by kernel_rfl)
     exact z7dz
   ·intro b w'
    refine z6uz ?_
    intro g w2 hg hx f
    exact z5gz
   ·intro b w' g hx e3 f hdep
    have e23:b.tmps.getD 23 undef = .agg #[.int .i64 rx, .int .i64 ru]:=hdep 18 (by decide) (by decide) (by kernel_rfl)
    refine zgz ?_
    refine w_astoreN Tryz.stPrep (.tmp 3) (.tmp 23) (us:=[.int .i64 rx, .int .i64 ru]) rfl rfl rfl e3 e23 f rfl rfl (by intro u hu;simp at hu;rcases hu with rfl|rfl <;> rfl) ?_
    intro w2 hm f2
    exact z4uz
   intro w8 x hx8 hv hc
   obtain ⟨g3,cs,eal,hg8,f3,rfl⟩:=hc
   have ek22:x 22 = .bool ok:=hv 22 (by decide) (by decide)
   simp only [List.foldl_cons,List.foldl_nil,eal,ek22]
   generalize x 0 = x100
   generalize x 1 = x101
   generalize x 2 = x102
   generalize x 3 = x103
   generalize x 4 = x104
   generalize x 5 = x105
   generalize x 6 = x106
   generalize x 7 = x107
   generalize x 8 = x108
   generalize x 9 = x109
   generalize x 10 = x110
   generalize x 11 = x111
   generalize x 12 = x112
   generalize x 13 = x113
   generalize x 14 = x114
   generalize x 15 = x115
   generalize x 16 = x116
   generalize x 17 = x117
   generalize x 18 = x118
   generalize x 19 = x119
   refine z1cz ?_
   clear hv eal ek22
   have hX:=hx8;rw [hok'.out]
   go_wp2
   refine zmz ?_;intro wd hxd;have HT:=hT.out.ext (hX.trans hxd);have FT:=HT.turn;have F0:=HT.cor.obj;have F3:=f3.ext hxd
   refine z6pz ?_
   refine z13z ?_
   refine z1gz ?_
   intro wN hxN
   refine z15z ?_
   replace hX:=hX.trans (hxd.trans hxN);replace f3:=f3.ext (hxd.trans hxN);clear hxd hxN HT FT F0 F3
   go_wp2
   go_ret
   exact z1kz
  have t1:(c.step != 1) = false:=by simp [h1]
  rw [if_pos h1] at hr0
  cases hk:CoD.knows kn rx
  ·have hkn:=hide_ hk
   rw [if_neg (fun q=>by rw [hk] at q;cases q.1)] at hr0
   subst hr0
   clear h hv0 hpN hlen0 hpo0 hpm0 hpp hok h1 hk hrx64
   go_enter Tryz.func44,Tryz.ntmps44
   go_wp2
   refine wp_region_val [0,1,2,3,4,5,6,7,8,9,10,11,12,13,14,15,16,17,18,19,20,22] (fun i=>([6,7,8,9,10,11,12,13,14,15,16,17,18,19,20,21,22,5,23,24,3,0,4]:List Nat).getD i 0) (fun i x=>x = ([(.pointer (some ⟨tb,0,none⟩)),(.pointer (some ⟨tb,0,none⟩)),(.pointer (some ⟨tb,0,none⟩)),(.pointer (some ⟨p,0,none⟩)),(.pointer (some ⟨p,0,none⟩)),(.pointer (some ⟨p,6,none⟩)),(.pointer (some ⟨p,10,none⟩)),(.map (some gp)),(.pointer (some ⟨tb,0,none⟩)),(.pointer (some ⟨tb,0,none⟩)),(.pointer (some ⟨tb,0,none⟩)),(.pointer (some ⟨p,0,none⟩)),(.pointer (some ⟨p,0,none⟩)),(.pointer (some ⟨p,6,none⟩)),(.pointer (some ⟨p,6,none⟩)),(.int .i64 c.view),(.tuple #[.agg #[.int .i64 rx, .int .i64 ru], .bool ok]),(.tuple #[.agg #[.int .i64 rx, .int .i64 ru], .bool ok]),(.agg #[.int .i64 rx, .int .i64 ru]),(.bool ok),undef,undef,(.bool ok)]:List Value).getD i undef) 20 21 [.int .i64 0, .int .i64 0] (fun cs=>cs = [.int .i64 rx, .int .i64 ru]) (by kernel_rfl) (by kernel_rfl) (by kernel_rfl) (by decide) (by decide) (by kernel_rfl) (by intro i hi;show _ < 68;revert i;decide) (by kernel_rfl) (by decide) (by kernel_rfl) ?_ ?_ ?_ ?_
   ·intro i hi ha b w' hx hout hdep
    rcases (show i = 0∨i = 1∨i = 2∨i = 3∨i = 4∨i = 5∨i = 6∨i = 7∨i = 8∨i = 9∨i = 10∨i = 11∨i = 12∨i = 13∨i = 14∨i = 15∨i = 16∨i = 17∨i = 18∨i = 19∨i = 22 by simp at hi;omega) with rfl|rfl|rfl|rfl|rfl|rfl|rfl|rfl|rfl|rfl|rfl|rfl|rfl|rfl|rfl|rfl|rfl|rfl|rfl|rfl|rfl
    ·have e0:b.tmps.getD 0 undef = .pointer (some ⟨tb,0,none⟩):=hout 0 (by decide)
     exact z6tz
    ·have e6:b.tmps.getD 6 undef = .pointer (some ⟨tb,0,none⟩):=hdep 0 (by decide) (by decide) (by kernel_rfl)
     exact z70z
    ·have e7:b.tmps.getD 7 undef = .pointer (some ⟨tb,0,none⟩):=hdep 1 (by decide) (by decide) (by kernel_rfl)
     exact z73z
    ·have e8:b.tmps.getD 8 undef = .pointer (some ⟨tb,0,none⟩):=hdep 2 (by decide) (by decide) (by kernel_rfl)
     exact z74z
    ·have e9:b.tmps.getD 9 undef = .pointer (some ⟨p,0,none⟩):=hdep 3 (by decide) (by decide) (by kernel_rfl)
     exact z71z
    ·have e10:b.tmps.getD 10 undef = .pointer (some ⟨p,0,none⟩):=hdep 4 (by decide) (by decide) (by kernel_rfl)
     exact z75z
    ·have e11:b.tmps.getD 11 undef = .pointer (some ⟨p,6,none⟩):=hdep 5 (by decide) (by decide) (by kernel_rfl)
     exact z76z
    ·have e12:b.tmps.getD 12 undef = .pointer (some ⟨p,10,none⟩):=hdep 6 (by decide) (by decide) (by kernel_rfl)
     exact z77z
    ·have e0:b.tmps.getD 0 undef = .pointer (some ⟨tb,0,none⟩):=hout 0 (by decide)
     exact z6tz
    ·have e14:b.tmps.getD 14 undef = .pointer (some ⟨tb,0,none⟩):=hdep 8 (by decide) (by decide) (by kernel_rfl)
     exact z6yz
    ·have e15:b.tmps.getD 15 undef = .pointer (some ⟨tb,0,none⟩):=hdep 9 (by decide) (by decide) (by kernel_rfl)
     exact z78z
    ·have e16:b.tmps.getD 16 undef = .pointer (some ⟨tb,0,none⟩):=hdep 10 (by decide) (by decide) (by kernel_rfl)
     exact z79z
    ·have e17:b.tmps.getD 17 undef = .pointer (some ⟨p,0,none⟩):=hdep 11 (by decide) (by decide) (by kernel_rfl)
     exact z6zz
    ·have e18:b.tmps.getD 18 undef = .pointer (some ⟨p,0,none⟩):=hdep 12 (by decide) (by decide) (by kernel_rfl)
     exact z7az
    ·have e19:b.tmps.getD 19 undef = .pointer (some ⟨p,6,none⟩):=hdep 13 (by decide) (by decide) (by kernel_rfl)
     exact z7bz
    ·have e20:b.tmps.getD 20 undef = .pointer (some ⟨p,6,none⟩):=hdep 14 (by decide) (by decide) (by kernel_rfl)
     exact z7cz
    ·have e13:b.tmps.getD 13 undef = .map (some gp):=hdep 7 (by decide) (by decide) (by kernel_rfl)
     have e21:b.tmps.getD 21 undef = .int .i64 c.view:=hdep 15 (by decide) (by decide) (by kernel_rfl)
     exact z2oz
    ·have e22:b.tmps.getD 22 undef = .tuple #[.agg #[.int .i64 rx, .int .i64 ru], .bool ok]:=hdep 16 (by decide) (by decide) (by kernel_rfl)
     exact z5az
    ·have e5:b.tmps.getD 5 undef = .tuple #[.agg #[.int .i64 rx, .int .i64 ru], .bool ok]:=hdep 17 (by decide) (by decide) (by kernel_rfl)
     exact z1wz
    ·have e5:b.tmps.getD 5 undef = .tuple #[.agg #[.int .i64 rx, .int .i64 ru], .bool ok]:=hdep 17 (by decide) (by decide) (by kernel_rfl)
     exact z1wz
    ·have e24:b.tmps.getD 24 undef = .bool ok:=hdep 19 (by decide) (by decide) (by kernel_rfl)
     exact z7dz
   ·intro b w'
    refine z6uz ?_
    intro g w2 hg hx f
    exact z5gz
   ·intro b w' g hx e3 f hdep
    have e23:b.tmps.getD 23 undef = .agg #[.int .i64 rx, .int .i64 ru]:=hdep 18 (by decide) (by decide) (by kernel_rfl)
    refine zgz ?_
    refine w_astoreN Tryz.stPrep (.tmp 3) (.tmp 23) (us:=[.int .i64 rx, .int .i64 ru]) rfl rfl rfl e3 e23 f rfl rfl (by intro u hu;simp at hu;rcases hu with rfl|rfl <;> rfl) ?_
    intro w2 hm f2
    exact z4uz
   intro w8 x hx8 hv hc
   obtain ⟨g3,cs,eal,hg8,f3,rfl⟩:=hc
   have ek22:x 22 = .bool ok:=hv 22 (by decide) (by decide)
   simp only [List.foldl_cons,List.foldl_nil,eal,ek22]
   generalize x 0 = x100
   generalize x 1 = x101
   generalize x 2 = x102
   generalize x 3 = x103
   generalize x 4 = x104
   generalize x 5 = x105
   generalize x 6 = x106
   generalize x 7 = x107
   generalize x 8 = x108
   generalize x 9 = x109
   generalize x 10 = x110
   generalize x 11 = x111
   generalize x 12 = x112
   generalize x 13 = x113
   generalize x 14 = x114
   generalize x 15 = x115
   generalize x 16 = x116
   generalize x 17 = x117
   generalize x 18 = x118
   generalize x 19 = x119
   refine z1cz ?_
   clear hv eal ek22
   have hX:=hx8;rw [hok'.out]
   go_wp2
   refine zmz ?_;intro wd hxd;have HT:=hT.out.ext (hX.trans hxd);have FT:=HT.turn;have F0:=HT.cor.obj;have F3:=f3.ext hxd
   refine z6pz ?_
   refine z13z ?_
   refine z23z ?_
   refine LinL.st [(4,none),(34,some 0)] rfl (op_yes (reads:=[(4,none)]) 9 34 0 false rfl rfl rfl (opmv (.bool true))) ?_
   refine LinL.step (s:=(.val (.bool false))) [(35,some 0),(34,some 1)] rfl (by kernel_rfl) (op_yes (reads:=[(35,some 0)]) 9 34 1 false rfl rfl rfl (op_runs rfl fun σ w' hx hg=>⟨(.bool false),by have h35 : σ.tmps.getD 35 undef = .bool true:=hg.1;unfold Runs execOp;simp [Act.eval,h35,go_sem],rfl⟩)) ?_
   refine z48z ?_
   refine LinL.st [(0,none),(38,some 0)] rfl (op_yes (reads:=[(0,none)]) 13 38 0 false rfl rfl rfl (opmv (.pointer (some ⟨tb,0,none⟩)))) ?_
   refine LinL.st [(3,none),(38,some 1)] rfl (op_yes (reads:=[(3,none)]) 13 38 1 false rfl rfl rfl (opfo 0 0 0 g3)) ?_
   refine LinL.st [(40,some 0),(38,some 2)] rfl (op_yes (reads:=[(40,some 0)]) 13 38 2 false rfl rfl rfl (opld (.int .i64 rx) F3)) ?_
   refine LinL.step (s:=(.val (.bool false))) [(39,some 2),(41,some 0),(38,some 3)] rfl (by kernel_rfl) (op_yes (reads:=[(39,some 2),(41,some 0)]) 13 38 3 false rfl rfl rfl (op_calls 61 #[(.tmp 39),(.tmp 41)] #[92,3] (fun σ => #[.pointer (some ⟨tb,0,none⟩), .int .i64 rx]) rfl rfl (fun _ _=>rfl) fun σ w' hx hg=>⟨by have h39 : σ.tmps.getD 39 undef = .pointer (some ⟨tb,0,none⟩):=hg.1;have h41 : σ.tmps.getD 41 undef = .int .i64 rx:=hg.2.1;simp only [List.map_toArray,List.map_cons,List.map_nil,Act.eval,h39,h41],rdV (isKnown_turn (HT.ext hx) hkn.out)⟩)) ?_
   refine LinL.step (s:=(.val (.bool true))) [(42,some 0),(38,some 4)] rfl (by kernel_rfl) (op_yes (reads:=[(42,some 0)]) 13 38 4 false rfl rfl rfl (op_runs rfl fun σ w' hx hg=>⟨(.bool true),by have h42 : σ.tmps.getD 42 undef = .bool false:=hg.1;unfold Runs execOp;simp [Act.eval,h42,go_sem],rfl⟩)) ?_
   refine LinL.step (s:=(.val (.bool true))) [(38,some 5),(43,some 0)] rfl (by kernel_rfl) (op_runs rfl fun σ w' hx hg=>⟨_,runs_pick_f (ρ := σ.eval) (w:=w') (.tmp 38) (.const (.bool true)) (.tmp 43) rfl hg.1 hg.2.1,rfl⟩) ?_
   refine LinL.st [(44,some 0)] rfl (opcp (.val (.bool true))) ?_
   refine LinL.step (s := .val undef) [(0,none),(45,some 0)] rfl (by kernel_rfl) (op_no (reads:=[(0,none)]) 20 45 0 false rfl rfl rfl) ?_
   refine LinL.step (s := .val undef) [(46,some 0),(45,some 1)] rfl (by kernel_rfl) (op_no (reads:=[(46,some 0)]) 20 45 1 false rfl rfl rfl) ?_
   refine LinL.step (s := .val undef) [(47,some 0),(45,some 2)] rfl (by kernel_rfl) (op_no (reads:=[(47,some 0)]) 20 45 2 false rfl rfl rfl) ?_
   refine LinL.step (s := .val undef) [(48,some 0),(45,some 3)] rfl (by kernel_rfl) (op_no (reads:=[(48,some 0)]) 20 45 3 false rfl rfl rfl) ?_
   refine LinL.step (s := .val undef) [(3,none),(45,some 4)] rfl (by kernel_rfl) (op_no (reads:=[(3,none)]) 20 45 4 false rfl rfl rfl) ?_
   refine LinL.step (s := .val undef) [(49,some 1),(50,some 0),(45,some 5)] rfl (by kernel_rfl) (op_no (reads:=[(49,some 1),(50,some 0)]) 20 45 5 false rfl rfl rfl) ?_
   refine LinL.step (s := .val undef) [(51,some 0),(45,some 6)] rfl (by kernel_rfl) (op_no (reads:=[(51,some 0)]) 20 45 6 false rfl rfl rfl) ?_
   refine LinL.step (s:=(.val (.bool true))) [(45,some 7),(52,some 0)] rfl (by kernel_rfl) (op_runs rfl fun σ w' hx hg=>⟨_,runs_pick_t (ρ := σ.eval) (w:=w') (.tmp 45) (.const (.bool true)) (.tmp 52) rfl hg.1 rfl,rfl⟩) ?_
   intro wN hxN
   refine z15z ?_
   replace hX:=hX.trans (hxd.trans hxN);replace f3:=f3.ext (hxd.trans hxN);clear hxd hxN HT FT F0 F3
   go_wp2
   go_ret
   exact z1kz
  have hkn:=hide_ hk
  cases hs:shown c rx ru
  ·have hsh:=hide_ hs
   rw [if_neg (fun q=>of_decide_eq_false hs q.2)] at hr0
   subst hr0
   clear h hv0 hpN hlen0 hpo0 hpm0 hpp hok h1 hk hs hrx64
   go_enter Tryz.func44,Tryz.ntmps44
   go_wp2
   refine wp_region_val [0,1,2,3,4,5,6,7,8,9,10,11,12,13,14,15,16,17,18,19,20,22] (fun i=>([6,7,8,9,10,11,12,13,14,15,16,17,18,19,20,21,22,5,23,24,3,0,4]:List Nat).getD i 0) (fun i x=>x = ([(.pointer (some ⟨tb,0,none⟩)),(.pointer (some ⟨tb,0,none⟩)),(.pointer (some ⟨tb,0,none⟩)),(.pointer (some ⟨p,0,none⟩)),(.pointer (some ⟨p,0,none⟩)),(.pointer (some ⟨p,6,none⟩)),(.pointer (some ⟨p,10,none⟩)),(.map (some gp)),(.pointer (some ⟨tb,0,none⟩)),(.pointer (some ⟨tb,0,none⟩)),(.pointer (some ⟨tb,0,none⟩)),(.pointer (some ⟨p,0,none⟩)),(.pointer (some ⟨p,0,none⟩)),(.pointer (some ⟨p,6,none⟩)),(.pointer (some ⟨p,6,none⟩)),(.int .i64 c.view),(.tuple #[.agg #[.int .i64 rx, .int .i64 ru], .bool ok]),(.tuple #[.agg #[.int .i64 rx, .int .i64 ru], .bool ok]),(.agg #[.int .i64 rx, .int .i64 ru]),(.bool ok),undef,undef,(.bool ok)]:List Value).getD i undef) 20 21 [.int .i64 0, .int .i64 0] (fun cs=>cs = [.int .i64 rx, .int .i64 ru]) (by kernel_rfl) (by kernel_rfl) (by kernel_rfl) (by decide) (by decide) (by kernel_rfl) (by intro i hi;show _ < 68;revert i;decide) (by kernel_rfl) (by decide) (by kernel_rfl) ?_ ?_ ?_ ?_
   ·intro i hi ha b w' hx hout hdep
    rcases (show i = 0∨i = 1∨i = 2∨i = 3∨i = 4∨i = 5∨i = 6∨i = 7∨i = 8∨i = 9∨i = 10∨i = 11∨i = 12∨i = 13∨i = 14∨i = 15∨i = 16∨i = 17∨i = 18∨i = 19∨i = 22 by simp at hi;omega) with rfl|rfl|rfl|rfl|rfl|rfl|rfl|rfl|rfl|rfl|rfl|rfl|rfl|rfl|rfl|rfl|rfl|rfl|rfl|rfl|rfl
    ·have e0:b.tmps.getD 0 undef = .pointer (some ⟨tb,0,none⟩):=hout 0 (by decide)
     exact z6tz
    ·have e6:b.tmps.getD 6 undef = .pointer (some ⟨tb,0,none⟩):=hdep 0 (by decide) (by decide) (by kernel_rfl)
     exact z70z
    ·have e7:b.tmps.getD 7 undef = .pointer (some ⟨tb,0,none⟩):=hdep 1 (by decide) (by decide) (by kernel_rfl)
     exact z73z
    ·have e8:b.tmps.getD 8 undef = .pointer (some ⟨tb,0,none⟩):=hdep 2 (by decide) (by decide) (by kernel_rfl)
     exact z74z
    ·have e9:b.tmps.getD 9 undef = .pointer (some ⟨p,0,none⟩):=hdep 3 (by decide) (by decide) (by kernel_rfl)
     exact z71z
    ·have e10:b.tmps.getD 10 undef = .pointer (some ⟨p,0,none⟩):=hdep 4 (by decide) (by decide) (by kernel_rfl)
     exact z75z
    ·have e11:b.tmps.getD 11 undef = .pointer (some ⟨p,6,none⟩):=hdep 5 (by decide) (by decide) (by kernel_rfl)
     exact z76z
    ·have e12:b.tmps.getD 12 undef = .pointer (some ⟨p,10,none⟩):=hdep 6 (by decide) (by decide) (by kernel_rfl)
     exact z77z
    ·have e0:b.tmps.getD 0 undef = .pointer (some ⟨tb,0,none⟩):=hout 0 (by decide)
     exact z6tz
    ·have e14:b.tmps.getD 14 undef = .pointer (some ⟨tb,0,none⟩):=hdep 8 (by decide) (by decide) (by kernel_rfl)
     exact z6yz
    ·have e15:b.tmps.getD 15 undef = .pointer (some ⟨tb,0,none⟩):=hdep 9 (by decide) (by decide) (by kernel_rfl)
     exact z78z
    ·have e16:b.tmps.getD 16 undef = .pointer (some ⟨tb,0,none⟩):=hdep 10 (by decide) (by decide) (by kernel_rfl)
     exact z79z
    ·have e17:b.tmps.getD 17 undef = .pointer (some ⟨p,0,none⟩):=hdep 11 (by decide) (by decide) (by kernel_rfl)
     exact z6zz
    ·have e18:b.tmps.getD 18 undef = .pointer (some ⟨p,0,none⟩):=hdep 12 (by decide) (by decide) (by kernel_rfl)
     exact z7az
    ·have e19:b.tmps.getD 19 undef = .pointer (some ⟨p,6,none⟩):=hdep 13 (by decide) (by decide) (by kernel_rfl)
     exact z7bz
    ·have e20:b.tmps.getD 20 undef = .pointer (some ⟨p,6,none⟩):=hdep 14 (by decide) (by decide) (by kernel_rfl)
     exact z7cz
    ·have e13:b.tmps.getD 13 undef = .map (some gp):=hdep 7 (by decide) (by decide) (by kernel_rfl)
     have e21:b.tmps.getD 21 undef = .int .i64 c.view:=hdep 15 (by decide) (by decide) (by kernel_rfl)
     exact z2oz
    ·have e22:b.tmps.getD 22 undef = .tuple #[.agg #[.int .i64 rx, .int .i64 ru], .bool ok]:=hdep 16 (by decide) (by decide) (by kernel_rfl)
     exact z5az
    ·have e5:b.tmps.getD 5 undef = .tuple #[.agg #[.int .i64 rx, .int .i64 ru], .bool ok]:=hdep 17 (by decide) (by decide) (by kernel_rfl)
     exact z1wz
    ·have e5:b.tmps.getD 5 undef = .tuple #[.agg #[.int .i64 rx, .int .i64 ru], .bool ok]:=hdep 17 (by decide) (by decide) (by kernel_rfl)
     exact z1wz
    ·have e24:b.tmps.getD 24 undef = .bool ok:=hdep 19 (by decide) (by decide) (by kernel_rfl)
     exact z7dz
   ·intro b w'
    refine z6uz ?_
    intro g w2 hg hx f
    exact z5gz
   ·intro b w' g hx e3 f hdep
    have e23:b.tmps.getD 23 undef = .agg #[.int .i64 rx, .int .i64 ru]:=hdep 18 (by decide) (by decide) (by kernel_rfl)
    refine zgz ?_
    refine w_astoreN Tryz.stPrep (.tmp 3) (.tmp 23) (us:=[.int .i64 rx, .int .i64 ru]) rfl rfl rfl e3 e23 f rfl rfl (by intro u hu;simp at hu;rcases hu with rfl|rfl <;> rfl) ?_
    intro w2 hm f2
    exact z4uz
   intro w8 x hx8 hv hc
   obtain ⟨g3,cs,eal,hg8,f3,rfl⟩:=hc
   have ek22:x 22 = .bool ok:=hv 22 (by decide) (by decide)
   simp only [List.foldl_cons,List.foldl_nil,eal,ek22]
   generalize x 0 = x100
   generalize x 1 = x101
   generalize x 2 = x102
   generalize x 3 = x103
   generalize x 4 = x104
   generalize x 5 = x105
   generalize x 6 = x106
   generalize x 7 = x107
   generalize x 8 = x108
   generalize x 9 = x109
   generalize x 10 = x110
   generalize x 11 = x111
   generalize x 12 = x112
   generalize x 13 = x113
   generalize x 14 = x114
   generalize x 15 = x115
   generalize x 16 = x116
   generalize x 17 = x117
   generalize x 18 = x118
   generalize x 19 = x119
   refine z1cz ?_
   clear hv eal ek22
   have hX:=hx8;rw [hok'.out]
   go_wp2
   refine zmz ?_;intro wd hxd;have HT:=hT.out.ext (hX.trans hxd);have FT:=HT.turn;have F0:=HT.cor.obj;have F3:=f3.ext hxd
   refine z6pz ?_
   refine z13z ?_
   refine z5z ?_
   refine LinL.step (s:=(.val (.bool false))) [(49,some 1),(50,some 0),(45,some 5)] rfl (by kernel_rfl) (op_yes (reads:=[(49,some 1),(50,some 0)]) 20 45 5 false rfl rfl rfl (op_calls 62 #[(.tmp 49),(.tmp 50)] #[32,67] (fun σ => #[.pointer (some ⟨p,0,none⟩), .agg #[.int .i64 rx, .int .i64 ru]]) rfl rfl (fun _ _=>rfl) fun σ w' hx hg=>⟨by have h49 : σ.tmps.getD 49 undef = .pointer (some ⟨p,0,none⟩):=hg.1;have h50 : σ.tmps.getD 50 undef = .agg #[.int .i64 rx, .int .i64 ru]:=hg.2.1;simp only [List.map_toArray,List.map_cons,List.map_nil,Act.eval,h49,h50],rdV (isShown_core (HT.cor.ext hx) hu64.out hsh.out)⟩)) ?_
   refine LinL.step (s:=(.val (.bool true))) [(51,some 0),(45,some 6)] rfl (by kernel_rfl) (op_yes (reads:=[(51,some 0)]) 20 45 6 false rfl rfl rfl (op_runs rfl fun σ w' hx hg=>⟨(.bool true),by have h51 : σ.tmps.getD 51 undef = .bool false:=hg.1;unfold Runs execOp;simp [Act.eval,h51,go_sem],rfl⟩)) ?_
   refine LinL.step (s:=(.val (.bool true))) [(45,some 7),(52,some 0)] rfl (by kernel_rfl) (op_runs rfl fun σ w' hx hg=>⟨_,runs_pick_f (ρ := σ.eval) (w:=w') (.tmp 45) (.const (.bool true)) (.tmp 52) rfl hg.1 hg.2.1,rfl⟩) ?_
   intro wN hxN
   refine z15z ?_
   replace hX:=hX.trans (hxd.trans hxN);replace f3:=f3.ext (hxd.trans hxN);clear hxd hxN HT FT F0 F3
   go_wp2
   go_ret
   exact z1kz
  have hsh:=hide_ hs
  rw [if_pos ⟨hk,of_decide_eq_true hs⟩] at hr0
  subst hr0
  cases hf:c.free rx ru
  ·have hfr:=hide_ hf
   obtain ⟨d,hd0⟩:∃ d,c.cast 4 (-1) = d:=⟨_,rfl⟩
   have hd:=hide_ hd0
   have hfin:=hide_ (show c.prep rx ru = d.to 2 from by unfold CoD.prep;rw [hf, ← hd0];rfl)
   have hvI:=hide_ (show d.view≤9223372036854775807 from by rw [← hd0,cast_view];omega)
   have hx64:=hide_ (show In64 (-1) from by unfold In64;omega)
   clear h hv0 hpN hlen0 hpo0 hpm0 hpp hok h1 hk hs hf hd0 hrx64
   go_enter Tryz.func44,Tryz.ntmps44
   go_wp2
   refine wp_region_val [0,1,2,3,4,5,6,7,8,9,10,11,12,13,14,15,16,17,18,19,20,22] (fun i=>([6,7,8,9,10,11,12,13,14,15,16,17,18,19,20,21,22,5,23,24,3,0,4]:List Nat).getD i 0) (fun i x=>x = ([(.pointer (some ⟨tb,0,none⟩)),(.pointer (some ⟨tb,0,none⟩)),(.pointer (some ⟨tb,0,none⟩)),(.pointer (some ⟨p,0,none⟩)),(.pointer (some ⟨p,0,none⟩)),(.pointer (some ⟨p,6,none⟩)),(.pointer (some ⟨p,10,none⟩)),(.map (some gp)),(.pointer (some ⟨tb,0,none⟩)),(.pointer (some ⟨tb,0,none⟩)),(.pointer (some ⟨tb,0,none⟩)),(.pointer (some ⟨p,0,none⟩)),(.pointer (some ⟨p,0,none⟩)),(.pointer (some ⟨p,6,none⟩)),(.pointer (some ⟨p,6,none⟩)),(.int .i64 c.view),(.tuple #[.agg #[.int .i64 rx, .int .i64 ru], .bool ok]),(.tuple #[.agg #[.int .i64 rx, .int .i64 ru], .bool ok]),(.agg #[.int .i64 rx, .int .i64 ru]),(.bool ok),undef,undef,(.bool ok)]:List Value).getD i undef) 20 21 [.int .i64 0, .int .i64 0] (fun cs=>cs = [.int .i64 rx, .int .i64 ru]) (by kernel_rfl) (by kernel_rfl) (by kernel_rfl) (by decide) (by decide) (by kernel_rfl) (by intro i hi;show _ < 68;revert i;decide) (by kernel_rfl) (by decide) (by kernel_rfl) ?_ ?_ ?_ ?_
   ·intro i hi ha b w' hx hout hdep
    rcases (show i = 0∨i = 1∨i = 2∨i = 3∨i = 4∨i = 5∨i = 6∨i = 7∨i = 8∨i = 9∨i = 10∨i = 11∨i = 12∨i = 13∨i = 14∨i = 15∨i = 16∨i = 17∨i = 18∨i = 19∨i = 22 by simp at hi;omega) with rfl|rfl|rfl|rfl|rfl|rfl|rfl|rfl|rfl|rfl|rfl|rfl|rfl|rfl|rfl|rfl|rfl|rfl|rfl|rfl|rfl
    ·have e0:b.tmps.getD 0 undef = .pointer (some ⟨tb,0,none⟩):=hout 0 (by decide)
     exact z6tz
    ·have e6:b.tmps.getD 6 undef = .pointer (some ⟨tb,0,none⟩):=hdep 0 (by decide) (by decide) (by kernel_rfl)
     exact z70z
    ·have e7:b.tmps.getD 7 undef = .pointer (some ⟨tb,0,none⟩):=hdep 1 (by decide) (by decide) (by kernel_rfl)
     exact z73z
    ·have e8:b.tmps.getD 8 undef = .pointer (some ⟨tb,0,none⟩):=hdep 2 (by decide) (by decide) (by kernel_rfl)
     exact z74z
    ·have e9:b.tmps.getD 9 undef = .pointer (some ⟨p,0,none⟩):=hdep 3 (by decide) (by decide) (by kernel_rfl)
     exact z71z
    ·have e10:b.tmps.getD 10 undef = .pointer (some ⟨p,0,none⟩):=hdep 4 (by decide) (by decide) (by kernel_rfl)
     exact z75z
    ·have e11:b.tmps.getD 11 undef = .pointer (some ⟨p,6,none⟩):=hdep 5 (by decide) (by decide) (by kernel_rfl)
     exact z76z
    ·have e12:b.tmps.getD 12 undef = .pointer (some ⟨p,10,none⟩):=hdep 6 (by decide) (by decide) (by kernel_rfl)
     exact z77z
    ·have e0:b.tmps.getD 0 undef = .pointer (some ⟨tb,0,none⟩):=hout 0 (by decide)
     exact z6tz
    ·have e14:b.tmps.getD 14 undef = .pointer (some ⟨tb,0,none⟩):=hdep 8 (by decide) (by decide) (by kernel_rfl)
     exact z6yz
    ·have e15:b.tmps.getD 15 undef = .pointer (some ⟨tb,0,none⟩):=hdep 9 (by decide) (by decide) (by kernel_rfl)
     exact z78z
    ·have e16:b.tmps.getD 16 undef = .pointer (some ⟨tb,0,none⟩):=hdep 10 (by decide) (by decide) (by kernel_rfl)
     exact z79z
    ·have e17:b.tmps.getD 17 undef = .pointer (some ⟨p,0,none⟩):=hdep 11 (by decide) (by decide) (by kernel_rfl)
     exact z6zz
    ·have e18:b.tmps.getD 18 undef = .pointer (some ⟨p,0,none⟩):=hdep 12 (by decide) (by decide) (by kernel_rfl)
     exact z7az
    ·have e19:b.tmps.getD 19 undef = .pointer (some ⟨p,6,none⟩):=hdep 13 (by decide) (by decide) (by kernel_rfl)
     exact z7bz
    ·have e20:b.tmps.getD 20 undef = .pointer (some ⟨p,6,none⟩):=hdep 14 (by decide) (by decide) (by kernel_rfl)
     exact z7cz
    ·have e13:b.tmps.getD 13 undef = .map (some gp):=hdep 7 (by decide) (by decide) (by kernel_rfl)
     have e21:b.tmps.getD 21 undef = .int .i64 c.view:=hdep 15 (by decide) (by decide) (by kernel_rfl)
     exact z2oz
    ·have e22:b.tmps.getD 22 undef = .tuple #[.agg #[.int .i64 rx, .int .i64 ru], .bool ok]:=hdep 16 (by decide) (by decide) (by kernel_rfl)
     exact z5az
    ·have e5:b.tmps.getD 5 undef = .tuple #[.agg #[.int .i64 rx, .int .i64 ru], .bool ok]:=hdep 17 (by decide) (by decide) (by kernel_rfl)
     exact z1wz
    ·have e5:b.tmps.getD 5 undef = .tuple #[.agg #[.int .i64 rx, .int .i64 ru], .bool ok]:=hdep 17 (by decide) (by decide) (by kernel_rfl)
     exact z1wz
    ·have e24:b.tmps.getD 24 undef = .bool ok:=hdep 19 (by decide) (by decide) (by kernel_rfl)
     exact z7dz
   ·intro b w'
    refine z6uz ?_
    intro g w2 hg hx f
    exact z5gz
   ·intro b w' g hx e3 f hdep
    have e23:b.tmps.getD 23 undef = .agg #[.int .i64 rx, .int .i64 ru]:=hdep 18 (by decide) (by decide) (by kernel_rfl)
    refine zgz ?_
    refine w_astoreN Tryz.stPrep (.tmp 3) (.tmp 23) (us:=[.int .i64 rx, .int .i64 ru]) rfl rfl rfl e3 e23 f rfl rfl (by intro u hu;simp at hu;rcases hu with rfl|rfl <;> rfl) ?_
    intro w2 hm f2
    exact z4uz
   intro w8 x hx8 hv hc
   obtain ⟨g3,cs,eal,hg8,f3,rfl⟩:=hc
   have ek22:x 22 = .bool ok:=hv 22 (by decide) (by decide)
   simp only [List.foldl_cons,List.foldl_nil,eal,ek22]
   generalize x 0 = x100
   generalize x 1 = x101
   generalize x 2 = x102
   generalize x 3 = x103
   generalize x 4 = x104
   generalize x 5 = x105
   generalize x 6 = x106
   generalize x 7 = x107
   generalize x 8 = x108
   generalize x 9 = x109
   generalize x 10 = x110
   generalize x 11 = x111
   generalize x 12 = x112
   generalize x 13 = x113
   generalize x 14 = x114
   generalize x 15 = x115
   generalize x 16 = x116
   generalize x 17 = x117
   generalize x 18 = x118
   generalize x 19 = x119
   refine z1cz ?_
   clear hv eal ek22
   have hX:=hx8;rw [hok'.out]
   go_wp2
   refine zmz ?_;intro wd hxd;have HT:=hT.out.ext (hX.trans hxd);have FT:=HT.turn;have F0:=HT.cor.obj;have F3:=f3.ext hxd
   refine z6pz ?_
   refine z13z ?_
   refine z1mz ?_
   intro wN hxN
   refine z15z ?_
   replace hX:=hX.trans (hxd.trans hxN);replace f3:=f3.ext (hxd.trans hxN);clear hxd hxN HT FT F0 F3
   go_wp2
   refine zmz ?_;intro wd hxd;have HT:=hT.out.ext (hX.trans hxd);have FT:=HT.turn;have F0:=HT.cor.obj;have F3:=f3.ext hxd
   refine Ph.rest 0 6 (by kernel_rfl) ?_
   refine z13z ?_
   refine z33z ?_
   refine LinL.step (s:=(.val (.bool false))) [(57,some 1),(58,some 0)] rfl (by kernel_rfl) (op_calls 63 #[(.tmp 57),(.tmp 58)] #[32,67] (fun σ => #[.pointer (some ⟨p,0,none⟩), .agg #[.int .i64 rx, .int .i64 ru]]) rfl rfl (fun _ _=>rfl) fun σ w' hx hg=>⟨by have h57 : σ.tmps.getD 57 undef = .pointer (some ⟨p,0,none⟩):=hg.1;have h58 : σ.tmps.getD 58 undef = .agg #[.int .i64 rx, .int .i64 ru]:=hg.2.1;simp only [List.map_toArray,List.map_cons,List.map_nil,Act.eval,h57,h58],rdV (lockAllows_core (HT.cor.ext hx) hfr.out)⟩) ?_
   intro wN hxN
   refine z15z ?_
   replace hX:=hX.trans (hxd.trans hxN);replace f3:=f3.ext (hxd.trans hxN);clear hxd hxN HT FT F0 F3
   go_wp2_with ((first | (go_at_call 53;refine (cast_turn (k:=4) (x := -1) (hT.out.ext hX) (by omega) hv64.out hx64.out hlen.out).mono ?_;rintro e w2 ⟨rfl,S2,ov2,hT2,hs2⟩;rw [hd.out] at hT2;replace hT2:=hide_ hT2) | (go_at_call 50;refine (goOn_turn (s:=2) hT2.out hvI.out).mono ?_;rintro e w3 ⟨rfl,hT3,hs3⟩) | refine z64z ?_ | fail) <;> (try refine z0z ?_))
   go_ret
   exact z4bz
  ·have hfr:=hide_ hf
   obtain ⟨d,hd0⟩:∃ d,c.cast 4 rx = d:=⟨_,rfl⟩
   have hd:=hide_ hd0
   have hfin:=hide_ (show c.prep rx ru = d.to 2 from by unfold CoD.prep;rw [hf, ← hd0];rfl)
   have hvI:=hide_ (show d.view≤9223372036854775807 from by rw [← hd0,cast_view];omega)
   have hx64:=hide_ (show In64 rx from hrx64)
   clear h hv0 hpN hlen0 hpo0 hpm0 hpp hok h1 hk hs hf hd0 hrx64
   go_enter Tryz.func44,Tryz.ntmps44
   go_wp2
   refine wp_region_val [0,1,2,3,4,5,6,7,8,9,10,11,12,13,14,15,16,17,18,19,20,22] (fun i=>([6,7,8,9,10,11,12,13,14,15,16,17,18,19,20,21,22,5,23,24,3,0,4]:List Nat).getD i 0) (fun i x=>x = ([(.pointer (some ⟨tb,0,none⟩)),(.pointer (some ⟨tb,0,none⟩)),(.pointer (some ⟨tb,0,none⟩)),(.pointer (some ⟨p,0,none⟩)),(.pointer (some ⟨p,0,none⟩)),(.pointer (some ⟨p,6,none⟩)),(.pointer (some ⟨p,10,none⟩)),(.map (some gp)),(.pointer (some ⟨tb,0,none⟩)),(.pointer (some ⟨tb,0,none⟩)),(.pointer (some ⟨tb,0,none⟩)),(.pointer (some ⟨p,0,none⟩)),(.pointer (some ⟨p,0,none⟩)),(.pointer (some ⟨p,6,none⟩)),(.pointer (some ⟨p,6,none⟩)),(.int .i64 c.view),(.tuple #[.agg #[.int .i64 rx, .int .i64 ru], .bool ok]),(.tuple #[.agg #[.int .i64 rx, .int .i64 ru], .bool ok]),(.agg #[.int .i64 rx, .int .i64 ru]),(.bool ok),undef,undef,(.bool ok)]:List Value).getD i undef) 20 21 [.int .i64 0, .int .i64 0] (fun cs=>cs = [.int .i64 rx, .int .i64 ru]) (by kernel_rfl) (by kernel_rfl) (by kernel_rfl) (by decide) (by decide) (by kernel_rfl) (by intro i hi;show _ < 68;revert i;decide) (by kernel_rfl) (by decide) (by kernel_rfl) ?_ ?_ ?_ ?_
   ·intro i hi ha b w' hx hout hdep
    rcases (show i = 0∨i = 1∨i = 2∨i = 3∨i = 4∨i = 5∨i = 6∨i = 7∨i = 8∨i = 9∨i = 10∨i = 11∨i = 12∨i = 13∨i = 14∨i = 15∨i = 16∨i = 17∨i = 18∨i = 19∨i = 22 by simp at hi;omega) with rfl|rfl|rfl|rfl|rfl|rfl|rfl|rfl|rfl|rfl|rfl|rfl|rfl|rfl|rfl|rfl|rfl|rfl|rfl|rfl|rfl
    ·have e0:b.tmps.getD 0 undef = .pointer (some ⟨tb,0,none⟩):=hout 0 (by decide)
     exact z6tz
    ·have e6:b.tmps.getD 6 undef = .pointer (some ⟨tb,0,none⟩):=hdep 0 (by decide) (by decide) (by kernel_rfl)
     exact z70z
    ·have e7:b.tmps.getD 7 undef = .pointer (some ⟨tb,0,none⟩):=hdep 1 (by decide) (by decide) (by kernel_rfl)
     exact z73z
    ·have e8:b.tmps.getD 8 undef = .pointer (some ⟨tb,0,none⟩):=hdep 2 (by decide) (by decide) (by kernel_rfl)
     exact z74z
    ·have e9:b.tmps.getD 9 undef = .pointer (some ⟨p,0,none⟩):=hdep 3 (by decide) (by decide) (by kernel_rfl)
     exact z71z
    ·have e10:b.tmps.getD 10 undef = .pointer (some ⟨p,0,none⟩):=hdep 4 (by decide) (by decide) (by kernel_rfl)
     exact z75z
    ·have e11:b.tmps.getD 11 undef = .pointer (some ⟨p,6,none⟩):=hdep 5 (by decide) (by decide) (by kernel_rfl)
     exact z76z
    ·have e12:b.tmps.getD 12 undef = .pointer (some ⟨p,10,none⟩):=hdep 6 (by decide) (by decide) (by kernel_rfl)
     exact z77z
    ·have e0:b.tmps.getD 0 undef = .pointer (some ⟨tb,0,none⟩):=hout 0 (by decide)
     exact z6tz
    ·have e14:b.tmps.getD 14 undef = .pointer (some ⟨tb,0,none⟩):=hdep 8 (by decide) (by decide) (by kernel_rfl)
     exact z6yz
    ·have e15:b.tmps.getD 15 undef = .pointer (some ⟨tb,0,none⟩):=hdep 9 (by decide) (by decide) (by kernel_rfl)
     exact z78z
    ·have e16:b.tmps.getD 16 undef = .pointer (some ⟨tb,0,none⟩):=hdep 10 (by decide) (by decide) (by kernel_rfl)
     exact z79z
    ·have e17:b.tmps.getD 17 undef = .pointer (some ⟨p,0,none⟩):=hdep 11 (by decide) (by decide) (by kernel_rfl)
     exact z6zz
    ·have e18:b.tmps.getD 18 undef = .pointer (some ⟨p,0,none⟩):=hdep 12 (by decide) (by decide) (by kernel_rfl)
     exact z7az
    ·have e19:b.tmps.getD 19 undef = .pointer (some ⟨p,6,none⟩):=hdep 13 (by decide) (by decide) (by kernel_rfl)
     exact z7bz
    ·have e20:b.tmps.getD 20 undef = .pointer (some ⟨p,6,none⟩):=hdep 14 (by decide) (by decide) (by kernel_rfl)
     exact z7cz
    ·have e13:b.tmps.getD 13 undef = .map (some gp):=hdep 7 (by decide) (by decide) (by kernel_rfl)
     have e21:b.tmps.getD 21 undef = .int .i64 c.view:=hdep 15 (by decide) (by decide) (by kernel_rfl)
     exact z2oz
    ·have e22:b.tmps.getD 22 undef = .tuple #[.agg #[.int .i64 rx, .int .i64 ru], .bool ok]:=hdep 16 (by decide) (by decide) (by kernel_rfl)
     exact z5az
    ·have e5:b.tmps.getD 5 undef = .tuple #[.agg #[.int .i64 rx, .int .i64 ru], .bool ok]:=hdep 17 (by decide) (by decide) (by kernel_rfl)
     exact z1wz
    ·have e5:b.tmps.getD 5 undef = .tuple #[.agg #[.int .i64 rx, .int .i64 ru], .bool ok]:=hdep 17 (by decide) (by decide) (by kernel_rfl)
     exact z1wz
    ·have e24:b.tmps.getD 24 undef = .bool ok:=hdep 19 (by decide) (by decide) (by kernel_rfl)
     exact z7dz
   ·intro b w'
    refine z6uz ?_
    intro g w2 hg hx f
    exact z5gz
   ·intro b w' g hx e3 f hdep
    have e23:b.tmps.getD 23 undef = .agg #[.int .i64 rx, .int .i64 ru]:=hdep 18 (by decide) (by decide) (by kernel_rfl)
    refine zgz ?_
    refine w_astoreN Tryz.stPrep (.tmp 3) (.tmp 23) (us:=[.int .i64 rx, .int .i64 ru]) rfl rfl rfl e3 e23 f rfl rfl (by intro u hu;simp at hu;rcases hu with rfl|rfl <;> rfl) ?_
    intro w2 hm f2
    exact z4uz
   intro w8 x hx8 hv hc
   obtain ⟨g3,cs,eal,hg8,f3,rfl⟩:=hc
   have ek22:x 22 = .bool ok:=hv 22 (by decide) (by decide)
   simp only [List.foldl_cons,List.foldl_nil,eal,ek22]
   generalize x 0 = x100
   generalize x 1 = x101
   generalize x 2 = x102
   generalize x 3 = x103
   generalize x 4 = x104
   generalize x 5 = x105
   generalize x 6 = x106
   generalize x 7 = x107
   generalize x 8 = x108
   generalize x 9 = x109
   generalize x 10 = x110
   generalize x 11 = x111
   generalize x 12 = x112
   generalize x 13 = x113
   generalize x 14 = x114
   generalize x 15 = x115
   generalize x 16 = x116
   generalize x 17 = x117
   generalize x 18 = x118
   generalize x 19 = x119
   refine z1cz ?_
   clear hv eal ek22
   have hX:=hx8;rw [hok'.out]
   go_wp2
   refine zmz ?_;intro wd hxd;have HT:=hT.out.ext (hX.trans hxd);have FT:=HT.turn;have F0:=HT.cor.obj;have F3:=f3.ext hxd
   refine z6pz ?_
   refine z13z ?_
   refine z1mz ?_
   intro wN hxN
   refine z15z ?_
   replace hX:=hX.trans (hxd.trans hxN);replace f3:=f3.ext (hxd.trans hxN);clear hxd hxN HT FT F0 F3
   go_wp2
   refine zmz ?_;intro wd hxd;have HT:=hT.out.ext (hX.trans hxd);have FT:=HT.turn;have F0:=HT.cor.obj;have F3:=f3.ext hxd
   refine Ph.rest 0 6 (by kernel_rfl) ?_
   refine z13z ?_
   refine z33z ?_
   refine LinL.step (s:=(.val (.bool true))) [(57,some 1),(58,some 0)] rfl (by kernel_rfl) (op_calls 63 #[(.tmp 57),(.tmp 58)] #[32,67] (fun σ => #[.pointer (some ⟨p,0,none⟩), .agg #[.int .i64 rx, .int .i64 ru]]) rfl rfl (fun _ _=>rfl) fun σ w' hx hg=>⟨by have h57 : σ.tmps.getD 57 undef = .pointer (some ⟨p,0,none⟩):=hg.1;have h58 : σ.tmps.getD 58 undef = .agg #[.int .i64 rx, .int .i64 ru]:=hg.2.1;simp only [List.map_toArray,List.map_cons,List.map_nil,Act.eval,h57,h58],rdV (lockAllows_core (HT.cor.ext hx) hfr.out)⟩) ?_
   intro wN hxN
   refine z15z ?_
   replace hX:=hX.trans (hxd.trans hxN);replace f3:=f3.ext (hxd.trans hxN);clear hxd hxN HT FT F0 F3
   go_wp2_with ((first | (go_at_call 53;refine (cast_turn (k:=4) (x:=rx) (hT.out.ext hX) (by omega) hv64.out hx64.out hlen.out).mono ?_;rintro e w2 ⟨rfl,S2,ov2,hT2,hs2⟩;rw [hd.out] at hT2;replace hT2:=hide_ hT2) | (go_at_call 50;refine (goOn_turn (s:=2) hT2.out hvI.out).mono ?_;rintro e w3 ⟨rfl,hT3,hs3⟩) | refine z64z ?_ | fail) <;> (try refine z0z ?_))
   go_ret
   exact z4bz
theorem commit_turn {S:Nat→Nat} {w:World} {tb p q gp gs:Nat} {kv ov sv dv:Value} {kn:List Int} {c:CoD} (h:TrnW S w tb p kv ov sv dv q gp gs kn c) (hv0:0≤c.view∧c.view≤1000) (hmN:∀ x,c.T.mostOf c.t 4 c.view = some x→In64 x) (hlen0:(c.out.length + 1) * 128≤140737488355328) {r:Option CoD} (hr0:c.com1 kn = r) :
  Calls Tryz.prog 45 #[.pointer (some ⟨tb,0,none⟩)] w fun e w'=>e = .returned (.bool r.isSome)∧∃ S',Trn S' w' tb p kv kn (r.getD c)∧Stp 1 8 S S' w w':=by
 refine z2rz ?_
 have hT:=hide_ h
 have hX:=Ext.refl w
 have hlen:=hide_ hlen0
 have hv64:=hide_ (show In64 c.view from by unfold In64;omega)
 unfold CoD.com1 at hr0
 cases hpp:c.T.mostOf c.t 4 c.view with
 | none =>
  obtain ⟨mx,hmx⟩:∃ r:Int,r = 0:=⟨_,rfl⟩
  have hmo:=hide_ (show (c.T.mostOf c.t 4 c.view).getD 0 = mx∧(c.T.mostOf c.t 4 c.view).isSome = false from by rw [hpp,hmx];exact ⟨rfl,rfl⟩)
  rw [hpp] at hr0
  have hrn:none = r:=by rw [← hr0];split <;> rfl
  subst hrn
  have hkn:=hide_ (show CoD.knows kn mx = CoD.knows kn mx from rfl)
  cases t1:(c.step != 2)
  ·clear h hv0 hmN hlen0 hr0 hpp hmx
   go_enter Tryz.func45,Tryz.ntmps45
   go_wp2
   refine zmz ?_;intro wd hxd;have HT:=hT.out.ext (hX.trans hxd);have FT:=HT.turn;have F0:=HT.cor.obj
   refine z2mz ?_
   intro wN hxN
   refine z15z ?_
   replace hX:=hX.trans (hxd.trans hxN);clear hxd hxN HT FT F0
   go_wp2_with ((first | go_big_skip | (go_at_call 61;refine (isKnown_turn (hT.out.ext hX) hkn.out).mono ?_;rintro e w5 ⟨rfl,hx⟩;replace hX:=hX.trans hx;clear hx) | refine z5iz ?_ | refine ziz ?_ | fail) <;> (try refine z0z ?_))
   go_ret
   exact z1kz
  ·clear h hv0 hmN hlen0 hr0 hpp hmx
   go_enter Tryz.func45,Tryz.ntmps45
   go_wp2
   refine zmz ?_;intro wd hxd;have HT:=hT.out.ext (hX.trans hxd);have FT:=HT.turn;have F0:=HT.cor.obj
   refine z2mz ?_
   intro wN hxN
   refine z15z ?_
   replace hX:=hX.trans (hxd.trans hxN);clear hxd hxN HT FT F0
   go_wp2_with ((first | go_big_skip | (go_at_call 61;refine (isKnown_turn (hT.out.ext hX) hkn.out).mono ?_;rintro e w5 ⟨rfl,hx⟩;replace hX:=hX.trans hx;clear hx) | refine z5iz ?_ | refine ziz ?_ | fail) <;> (try refine z0z ?_))
   go_ret
   exact z1kz
 | some mx =>
  have hmo:=hide_ (show (c.T.mostOf c.t 4 c.view).getD 0 = mx∧(c.T.mostOf c.t 4 c.view).isSome = true from by rw [hpp];exact ⟨rfl,rfl⟩)
  have hx64:=hide_ (hmN mx hpp)
  rw [hpp] at hr0
  simp only at hr0
  by_cases h1:c.step = 2
  rotate_left
  ·have t1:(c.step != 2) = true:=by simp [h1]
   rw [if_neg h1] at hr0
   subst hr0
   have hkn:=hide_ (show CoD.knows kn mx = CoD.knows kn mx from rfl)
   clear h hv0 hmN hlen0 hpp h1
   go_enter Tryz.func45,Tryz.ntmps45
   go_wp2
   refine zmz ?_;intro wd hxd;have HT:=hT.out.ext (hX.trans hxd);have FT:=HT.turn;have F0:=HT.cor.obj
   refine z1z ?_
   intro wN hxN
   refine z15z ?_
   replace hX:=hX.trans (hxd.trans hxN);clear hxd hxN HT FT F0
   go_wp2_with ((first | go_big_skip | (go_at_call 61;refine (isKnown_turn (hT.out.ext hX) hkn.out).mono ?_;rintro e w5 ⟨rfl,hx⟩;replace hX:=hX.trans hx;clear hx) | refine z5iz ?_ | refine ziz ?_ | fail) <;> (try refine z0z ?_))
   go_ret
   exact z1kz
  have t1:(c.step != 2) = false:=by simp [h1]
  rw [if_pos h1] at hr0
  by_cases h2:mx = -1
  ·have t2:(mx != -1) = false:=by simp [h2]
   rw [if_pos (.inl h2)] at hr0
   subst hr0
   have hkn:=hide_ (show CoD.knows kn mx = CoD.knows kn mx from rfl)
   obtain ⟨d,hd0⟩:∃ d,c.cast 5 mx = d:=⟨_,rfl⟩
   have hd:=hide_ hd0
   have hfin:=hide_ (show c.comm mx = d.to 3 from by unfold CoD.comm CoD.lock;rw [if_pos h2,hd0])
   have hvI:=hide_ (show d.view≤9223372036854775807 from by rw [← hd0,cast_view];omega)
   clear h hv0 hmN hlen0 hpp h1 h2 hd0
   go_enter Tryz.func45,Tryz.ntmps45
   go_wp2
   refine zmz ?_;intro wd hxd;have HT:=hT.out.ext (hX.trans hxd);have FT:=HT.turn;have F0:=HT.cor.obj
   refine z1z ?_
   intro wN hxN
   refine z15z ?_
   replace hX:=hX.trans (hxd.trans hxN);clear hxd hxN HT FT F0
   go_wp2_with ((first | go_big_skip | (go_at_call 61;refine (isKnown_turn (hT.out.ext hX) hkn.out).mono ?_;rintro e w5 ⟨rfl,hx⟩;replace hX:=hX.trans hx;clear hx) | refine z5iz ?_ | refine ziz ?_ | (go_at_call 53;refine (cast_turn (k:=5) (x:=mx) (hT.out.ext hX) (by omega) hv64.out hx64.out hlen.out).mono ?_;rintro e w2 ⟨rfl,S2,ov2,hT2,hs2⟩;rw [hd.out] at hT2;replace hT2:=hide_ hT2) | (go_at_call 50;refine (goOn_turn (s:=3) hT2.out hvI.out).mono ?_;rintro e w3 ⟨rfl,hT3,hs3⟩) | fail) <;> (try refine z0z ?_))
   go_ret
   exact z4bz
  have t2:(mx != -1) = true:=by simp [h2]
  cases hk:CoD.knows kn mx
  ·have hkn:=hide_ hk
   rw [if_neg (fun q=>q.elim h2 fun q=>by rw [hk] at q;cases q)] at hr0
   subst hr0
   clear h hv0 hmN hlen0 hpp h1 h2 hk
   go_enter Tryz.func45,Tryz.ntmps45
   go_wp2
   refine zmz ?_;intro wd hxd;have HT:=hT.out.ext (hX.trans hxd);have FT:=HT.turn;have F0:=HT.cor.obj
   refine z1z ?_
   intro wN hxN
   refine z15z ?_
   replace hX:=hX.trans (hxd.trans hxN);clear hxd hxN HT FT F0
   go_wp2_with ((first | go_big_skip | (go_at_call 61;refine (isKnown_turn (hT.out.ext hX) hkn.out).mono ?_;rintro e w5 ⟨rfl,hx⟩;replace hX:=hX.trans hx;clear hx) | refine z5iz ?_ | refine ziz ?_ | fail) <;> (try refine z0z ?_))
   go_ret
   exact z1kz
  have hkn:=hide_ hk
  rw [if_pos (.inr hk)] at hr0
  subst hr0
  obtain ⟨d,hd50⟩:∃ d,({ c with lv:=mx,lw:=c.view }:CoD) = d:=⟨_,rfl⟩
  have hd5:=hide_ hd50
  obtain ⟨d6,hd60⟩:∃ e,({ d with vv:=d.lv,vw:=d.lw }:CoD) = e:=⟨_,rfl⟩
  have hd6:=hide_ hd60
  have hlk:c.lock mx = d6:=by subst hd50;subst hd60;unfold CoD.lock;rw [if_neg h2]
  obtain ⟨d7,hd70⟩:∃ e,d6.cast 5 mx = e:=⟨_,rfl⟩
  have hd7:=hide_ hd70
  have hfin:=hide_ (show c.comm mx = d7.to 3 from by unfold CoD.comm;rw [hlk,hd70])
  have hvI:=hide_ (show d7.view≤9223372036854775807 from by rw [← hd70,cast_view, ← hlk];unfold CoD.lock;rw [if_neg h2];show c.view≤_;omega)
  have hv6:=hide_ (show In64 d6.view from by rw [← hlk];unfold CoD.lock;rw [if_neg h2];exact hv64.out)
  have hl6:=hide_ (show (d6.out.length + 1) * 128≤140737488355328 from by rw [← hlk];unfold CoD.lock;rw [if_neg h2];exact hlen0)
  clear h hv0 hmN hlen0 hpp h1 h2 hk hd50 hd60 hlk hd70
  go_enter Tryz.func45,Tryz.ntmps45
  go_wp2
  refine zmz ?_;intro wd hxd;have HT:=hT.out.ext (hX.trans hxd);have FT:=HT.turn;have F0:=HT.cor.obj
  refine z1z ?_
  intro wN hxN
  refine z15z ?_
  replace hX:=hX.trans (hxd.trans hxN);clear hxd hxN HT FT F0
  go_wp2_with ((first | go_big_skip | (go_at_call 61;refine (isKnown_turn (hT.out.ext hX) hkn.out).mono ?_;rintro e w5 ⟨rfl,hx⟩;replace hX:=hX.trans hx;clear hx) | refine z5iz ?_ | refine ziz ?_ | fail) <;> (try refine z0z ?_))
  refine zmz ?_;intro wd hxd;have HT:=hT.out.ext (hX.trans hxd);have FT:=HT.turn;have F0:=HT.cor.obj
  refine Ph.gate 0 17 (by kernel_rfl) ?_
  refine z13z ?_
  refine LinL.st [(46,some 0)] rfl opnl ?_
  refine LinL.st [(47,some 0)] rfl (opfb 0 0 0 tb) ?_
  refine LinL.st [(48,some 0)] rfl (opld (.pointer (some ⟨p,0,none⟩)) FT) ?_
  refine LinL.st [(3,none)] rfl (opmv (.int .i64 mx)) ?_
  refine z13z ?_
  refine LinL.st [(51,some 0)] rfl opnl ?_
  refine LinL.st [(52,some 0)] rfl (opfb 0 0 0 tb) ?_
  refine LinL.st [(53,some 0)] rfl (opld (.pointer (some ⟨p,0,none⟩)) FT) ?_
  refine LinL.st [(54,some 0)] rfl opnl ?_
  refine LinL.st [(55,some 0)] rfl (opfb 6 6 6 p) ?_
  refine LinL.st [(56,some 0)] rfl (opfb 0 0 6 p) ?_
  refine LinL.st [(57,some 0)] rfl (opld (.int .i64 c.view) F0) ?_
  refine LinL.step (s:=(.val (.agg #[.int .i64 mx, .int .i64 c.view]))) [(50,some 8),(58,some 0)] rfl (by kernel_rfl) (op_runs rfl fun σ w' hx hg=>⟨_,runs_sbuild (ρ := σ.eval) (w:=w') Tryz.stPrepS [.int .i64 mx, .int .i64 c.view] (ps:=#[(0, .tmp 50),(1, .tmp 58)]) rfl (by have h50 : σ.tmps.getD 50 undef = .int .i64 mx:=hg.1;have h58 : σ.tmps.getD 58 undef = .int .i64 c.view:=hg.2.1;simp only [List.map_cons,List.map_nil,Act.eval,h50,h58,List.foldl_cons,List.foldl_nil,List.set_cons_zero,List.set_cons_succ]) (by have h50 : σ.tmps.getD 50 undef = .int .i64 mx:=hg.1;have h58 : σ.tmps.getD 58 undef = .int .i64 c.view:=hg.2.1;intro p hp;simp at hp;rcases hp with rfl|rfl;exact ⟨by decide,by show (σ.tmps.getD 50 undef).cells = #[σ.tmps.getD 50 undef];rw [h50];exact rfl⟩;exact ⟨by decide,by show (σ.tmps.getD 58 undef).cells = #[σ.tmps.getD 58 undef];rw [h58];exact rfl⟩),rfl⟩) ?_
  refine LinL.st [(49,some 10)] rfl opnl ?_
  refine LinL.st [(60,some 0)] rfl (opfb 6 6 6 p) ?_
  refine LinL.st [(61,some 0)] rfl (opfb 6 6 12 p) ?_
  intro wN hxN
  refine z7gz ?_
  refine w_storeB Tryz.stPrep (pre:=[.int .i64 (c.me:Nat),sv, .int .i64 c.base, .int .i64 c.most,dv, .int .i64 c.tip, .int .i64 c.view, .int .i64 c.step, .int .i64 c.left, .pointer (some ⟨q,0,none⟩), .map (some gp), .map (some gs)]) (old:=[.int .i64 c.lv, .int .i64 c.lw]) (us:=[.int .i64 mx, .int .i64 c.view]) (post:=[.int .i64 c.vv, .int .i64 c.vw]) _ _ rfl rfl rfl rfl rfl (F0.ext hxN) rfl rfl rfl (by intro u hu;simp only [List.mem_cons,List.not_mem_nil,or_false] at hu;rcases hu with rfl|rfl <;> rfl) ?_;intro w9 hm9 f9
  show Ph Tryz.prog _ _ 18 _ _
  refine Ph.rest 18 0 (by kernel_rfl) ?_
  intro wM hxM
  refine zuz ?_
  have hTN:=HT.ext hxN
  have hCN:=hTN.cor.cell (d:=({ c with lv:=mx,lw:=c.view }:CoD)) hm9 f9 ⟨rfl,rfl,rfl,rfl,rfl,rfl⟩ hTN.cor.lft
  have hsN:=hTN.cor.stpCell hm9
  have hT5:=hide_ ((hTN.core hsN hCN rfl).ext hxM)
  have hS5:=hide_ (((Stp.ofExt (lo:=1) (hi:=8) (hX.trans (hxd.trans hxN)) hT.out.bnd).trans (hsN.wide (by omega) (by omega))).trans (Stp.ofExt hxM hCN.bnd))
  rw [hd5.out] at hT5
  clear hTN hCN hsN hm9 f9 hX hxd hxN hxM HT FT F0
  have hX:=Ext.refl wM
  go_wp2
  refine zmz ?_;intro wd hxd;have HT:=hT5.out.ext (hX.trans hxd);have FT:=HT.turn;have F0:=HT.cor.obj
  refine Ph.gate 0 15 (by kernel_rfl) ?_
  refine z13z ?_
  refine LinL.st [(63,some 0)] rfl opnl ?_
  refine LinL.st [(64,some 0)] rfl (opfb 0 0 0 tb) ?_
  refine LinL.st [(65,some 0)] rfl (opld (.pointer (some ⟨p,0,none⟩)) FT) ?_
  refine z13z ?_
  refine LinL.st [(67,some 0)] rfl opnl ?_
  refine LinL.st [(68,some 0)] rfl (opfb 0 0 0 tb) ?_
  refine LinL.st [(69,some 0)] rfl (opld (.pointer (some ⟨p,0,none⟩)) FT) ?_
  refine LinL.st [(70,some 0)] rfl opnl ?_
  refine LinL.st [(71,some 0)] rfl (opfb 6 6 6 p) ?_
  refine LinL.st [(72,some 0)] rfl (opfb 6 6 12 p) ?_
  refine LinL.step (s:=(.val (.agg #[.int .i64 d.lv, .int .i64 d.lw]))) [(73,some 0)] rfl (by kernel_rfl) (op_runs rfl fun σ w' hx hg=>⟨_,runs_loadB (ρ := σ.eval) (w:=w') Tryz.stPrep (.tmp 73) (us:=[.int .i64 d.lv, .int .i64 d.lw]) rfl hg.1 (F0.ext hx) rfl rfl,rfl⟩) ?_
  refine LinL.st [(66,some 8)] rfl opnl ?_
  refine LinL.st [(75,some 0)] rfl (opfb 6 6 6 p) ?_
  refine LinL.st [(76,some 0)] rfl (opfb 7 8 14 p) ?_
  intro wN hxN
  refine z7gz ?_
  refine w_storeB Tryz.stPrep (pre:=[.int .i64 (d.me:Nat),sv, .int .i64 d.base, .int .i64 d.most,dv, .int .i64 d.tip, .int .i64 d.view, .int .i64 d.step, .int .i64 d.left, .pointer (some ⟨q,0,none⟩), .map (some gp), .map (some gs), .int .i64 d.lv, .int .i64 d.lw]) (old:=[.int .i64 d.vv, .int .i64 d.vw]) (us:=[.int .i64 d.lv, .int .i64 d.lw]) (post:=[]) _ _ rfl rfl rfl rfl rfl (F0.ext hxN) rfl rfl rfl (by intro u hu;simp only [List.mem_cons,List.not_mem_nil,or_false] at hu;rcases hu with rfl|rfl <;> rfl) ?_;intro w9 hm9 f9
  refine z3rz ?_
  intro wM hxM
  refine zuz ?_
  have hTN:=HT.ext hxN
  have hCN:=hTN.cor.cell (d:=({ d with vv:=d.lv,vw:=d.lw }:CoD)) hm9 f9 ⟨rfl,rfl,rfl,rfl,rfl,rfl⟩ hTN.cor.lft
  have hsN:=hTN.cor.stpCell hm9
  have hT6:=hide_ ((hTN.core hsN hCN rfl).ext hxM)
  have hS6:=hide_ ((hS5.out.trans (((Stp.ofExt (lo:=1) (hi:=8) (hX.trans (hxd.trans hxN)) hT5.out.bnd).trans (hsN.wide (by omega) (by omega))))).trans (Stp.ofExt hxM hCN.bnd))
  rw [hd6.out] at hT6
  clear hTN hCN hsN hm9 f9 hX hxd hxN hxM HT FT F0
  go_wp2_with (first | (go_at_call 53;refine (cast_turn (k:=5) (x:=mx) hT6.out (by omega) hv6.out hx64.out hl6.out).mono ?_;rintro e w2 ⟨rfl,S2,ov2,hT2,hs2⟩;rw [hd7.out] at hT2;replace hT2:=hide_ hT2) | (go_at_call 50;refine (goOn_turn (s:=3) hT2.out hvI.out).mono ?_;rintro e w3 ⟨rfl,hT3,hs3⟩) | fail)
  go_ret
  exact Keep.intro ⟨rfl,S2,⟨_,_,_,_,_,_,by rw [Option.getD_some,hfin.out];exact hT3⟩,(hS6.out.trans hs2).trans hs3⟩
theorem revalue_turn {S:Nat→Nat} {w:World} {tb p q gp gs:Nat} {kv ov sv dv:Value} {kn:List Int} {c:CoD} (h:TrnW S w tb p kv ov sv dv q gp gs kn c) (hv0:0≤c.view∧c.view≤1000) {r:Option CoD} (hr0:c.rev1 kn = r) :
  Calls Tryz.prog 46 #[.pointer (some ⟨tb,0,none⟩)] w fun e w'=>e = .returned (.bool r.isSome)∧∃ S',Trn S' w' tb p kv kn (r.getD c)∧Stp 1 8 S S' w w':=by
 refine z2rz ?_
 have hT:=hide_ h
 have hX:=Ext.refl w
 have hv64:=hide_ (show In64 c.view from by unfold In64;omega)
 unfold CoD.rev1 at hr0
 cases hpp:c.T.mostOf c.t 4 c.view with
 | none =>
  obtain ⟨mx,hmx⟩:∃ r:Int,r = 0:=⟨_,rfl⟩
  have hmo:=hide_ (show (c.T.mostOf c.t 4 c.view).getD 0 = mx∧(c.T.mostOf c.t 4 c.view).isSome = false from by rw [hpp,hmx];exact ⟨rfl,rfl⟩)
  rw [hpp] at hr0
  have hrn:none = r:=by rw [← hr0];split <;> rfl
  subst hrn
  by_cases h1:c.step = 3
  ·have t1:(c.step != 3) = false:=by simp [h1]
   clear h hv0 hr0 hpp hmx h1
   go_enter Tryz.func46,Tryz.ntmps46
   go_wp2
   refine zmz ?_;intro wd hxd;have HT:=hT.out.ext (hX.trans hxd);have FT:=HT.turn;have F0:=HT.cor.obj
   refine z2mz ?_
   intro wN hxN
   refine z15z ?_
   replace hX:=hX.trans (hxd.trans hxN);clear hxd hxN HT FT F0
   go_wp2
   refine zmz ?_;intro wd hxd;have HT:=hT.out.ext (hX.trans hxd);have FT:=HT.turn;have F0:=HT.cor.obj
   refine z6qz ?_
   refine z13z ?_
   refine LinL.st [(21,some 0)] rfl opnl ?_
   refine LinL.st [(22,some 0)] rfl (opfb 0 0 0 tb) ?_
   refine LinL.st [(23,some 0)] rfl (opld (.pointer (some ⟨p,0,none⟩)) FT) ?_
   refine LinL.st [(24,some 0)] rfl opnl ?_
   refine LinL.st [(25,some 0)] rfl (opfb 6 6 6 p) ?_
   refine LinL.st [(26,some 0)] rfl (opfb 1 1 7 p) ?_
   refine LinL.st [(27,some 0)] rfl (opld (.int .i64 c.step) F0) ?_
   refine LinL.step (s:=(.val (.bool false))) [(28,some 0)] rfl (by kernel_rfl) (op_runs rfl fun σ w' hx hg=>⟨(.bool false),by have h28 : σ.tmps.getD 28 undef = .int .i64 c.step:=hg.1;unfold Runs execOp;simp [Act.eval,h28,go_sem,t1],rfl⟩) ?_
   refine LinL.st [(29,some 0)] rfl (opcp (.val (.bool false))) ?_
   refine LinL.st [(4,none),(30,some 0)] rfl (op_yes (reads:=[(4,none)]) 9 30 0 false rfl rfl rfl (opmv (.bool false))) ?_
   refine LinL.step (s:=(.val (.bool true))) [(31,some 0),(30,some 1)] rfl (by kernel_rfl) (op_yes (reads:=[(31,some 0)]) 9 30 1 false rfl rfl rfl (op_runs rfl fun σ w' hx hg=>⟨(.bool true),by have h31 : σ.tmps.getD 31 undef = .bool false:=hg.1;unfold Runs execOp;simp [Act.eval,h31,go_sem],rfl⟩)) ?_
   refine LinL.step (s:=(.val (.bool true))) [(30,some 2),(32,some 0)] rfl (by kernel_rfl) (op_runs rfl fun σ w' hx hg=>⟨_,runs_pick_f (ρ := σ.eval) (w:=w') (.tmp 30) (.const (.bool true)) (.tmp 32) rfl hg.1 hg.2.1,rfl⟩) ?_
   refine LinL.st [(33,some 0)] rfl (opcp (.val (.bool true))) ?_
   refine LinL.step (s := .val undef) [(3,none),(34,some 0)] rfl (by kernel_rfl) (op_no (reads:=[(3,none)]) 13 34 0 false rfl rfl rfl) ?_
   refine LinL.step (s := .val undef) [(35,some 0),(34,some 1)] rfl (by kernel_rfl) (op_no (reads:=[(35,some 0)]) 13 34 1 false rfl rfl rfl) ?_
   refine LinL.step (s:=(.val (.bool true))) [(34,some 2),(36,some 0)] rfl (by kernel_rfl) (op_runs rfl fun σ w' hx hg=>⟨_,runs_pick_t (ρ := σ.eval) (w:=w') (.tmp 34) (.const (.bool true)) (.tmp 36) rfl hg.1 rfl,rfl⟩) ?_
   refine z59z ?_
   intro wN hxN
   refine z15z ?_
   replace hX:=hX.trans (hxd.trans hxN);clear hxd hxN HT FT F0
   go_wp2
   go_ret
   exact z1kz
  ·have t1:(c.step != 3) = true:=by simp [h1]
   clear h hv0 hr0 hpp hmx h1
   go_enter Tryz.func46,Tryz.ntmps46
   go_wp2
   refine zmz ?_;intro wd hxd;have HT:=hT.out.ext (hX.trans hxd);have FT:=HT.turn;have F0:=HT.cor.obj
   refine z2mz ?_
   intro wN hxN
   refine z15z ?_
   replace hX:=hX.trans (hxd.trans hxN);clear hxd hxN HT FT F0
   go_wp2
   refine zmz ?_;intro wd hxd;have HT:=hT.out.ext (hX.trans hxd);have FT:=HT.turn;have F0:=HT.cor.obj
   refine z6qz ?_
   refine z13z ?_
   refine zyz ?_
   refine z59z ?_
   intro wN hxN
   refine z15z ?_
   replace hX:=hX.trans (hxd.trans hxN);clear hxd hxN HT FT F0
   go_wp2
   go_ret
   exact z1kz
 | some mx =>
  have hmo:=hide_ (show (c.T.mostOf c.t 4 c.view).getD 0 = mx∧(c.T.mostOf c.t 4 c.view).isSome = true from by rw [hpp];exact ⟨rfl,rfl⟩)
  rw [hpp] at hr0
  simp only at hr0
  by_cases h1:c.step = 3
  rotate_left
  ·have t1:(c.step != 3) = true:=by simp [h1]
   rw [if_neg h1] at hr0
   subst hr0
   clear h hv0 hpp h1
   go_enter Tryz.func46,Tryz.ntmps46
   go_wp2
   refine zmz ?_;intro wd hxd;have HT:=hT.out.ext (hX.trans hxd);have FT:=HT.turn;have F0:=HT.cor.obj
   refine z1z ?_
   intro wN hxN
   refine z15z ?_
   replace hX:=hX.trans (hxd.trans hxN);clear hxd hxN HT FT F0
   go_wp2
   refine zmz ?_;intro wd hxd;have HT:=hT.out.ext (hX.trans hxd);have FT:=HT.turn;have F0:=HT.cor.obj
   refine z6qz ?_
   refine z13z ?_
   refine zyz ?_
   refine z59z ?_
   intro wN hxN
   refine z15z ?_
   replace hX:=hX.trans (hxd.trans hxN);clear hxd hxN HT FT F0
   go_wp2
   go_ret
   exact z1kz
  have t1:(c.step != 3) = false:=by simp [h1]
  rw [if_pos h1] at hr0
  by_cases h2:mx = -1
  ·have t2:(mx == -1) = true:=by simp [h2]
   rw [if_neg (fun q=>q.1 h2)] at hr0
   subst hr0
   clear h hv0 hpp h1 h2
   go_enter Tryz.func46,Tryz.ntmps46
   go_wp2
   refine zmz ?_;intro wd hxd;have HT:=hT.out.ext (hX.trans hxd);have FT:=HT.turn;have F0:=HT.cor.obj
   refine z1z ?_
   intro wN hxN
   refine z15z ?_
   replace hX:=hX.trans (hxd.trans hxN);clear hxd hxN HT FT F0
   go_wp2
   refine zmz ?_;intro wd hxd;have HT:=hT.out.ext (hX.trans hxd);have FT:=HT.turn;have F0:=HT.cor.obj
   refine z6qz ?_
   refine z13z ?_
   refine z18z ?_
   refine LinL.step (s:=(.val (.bool true))) [(35,some 0),(34,some 1)] rfl (by kernel_rfl) (op_yes (reads:=[(35,some 0)]) 13 34 1 false rfl rfl rfl (op_runs rfl fun σ w' hx hg=>⟨(.bool true),by have h35 : σ.tmps.getD 35 undef = .int .i64 mx:=hg.1;unfold Runs execOp;simp [Act.eval,h35,go_sem,t2],rfl⟩)) ?_
   refine z4wz ?_
   refine z59z ?_
   intro wN hxN
   refine z15z ?_
   replace hX:=hX.trans (hxd.trans hxN);clear hxd hxN HT FT F0
   go_wp2
   go_ret
   exact z1kz
  have t2:(mx == -1) = false:=by simp [h2]
  cases hk:CoD.knows kn mx
  ·have hkn:=hide_ hk
   rw [if_neg (fun q=>by rw [hk] at q;cases q.2.1)] at hr0
   subst hr0
   clear h hv0 hpp h1 h2 hk
   go_enter Tryz.func46,Tryz.ntmps46
   go_wp2
   refine zmz ?_;intro wd hxd;have HT:=hT.out.ext (hX.trans hxd);have FT:=HT.turn;have F0:=HT.cor.obj
   refine z1z ?_
   intro wN hxN
   refine z15z ?_
   replace hX:=hX.trans (hxd.trans hxN);clear hxd hxN HT FT F0
   go_wp2
   refine zmz ?_;intro wd hxd;have HT:=hT.out.ext (hX.trans hxd);have FT:=HT.turn;have F0:=HT.cor.obj
   refine z6qz ?_
   refine z13z ?_
   refine z18z ?_
   refine LinL.step (s:=(.val (.bool false))) [(35,some 0),(34,some 1)] rfl (by kernel_rfl) (op_yes (reads:=[(35,some 0)]) 13 34 1 false rfl rfl rfl (op_runs rfl fun σ w' hx hg=>⟨(.bool false),by have h35 : σ.tmps.getD 35 undef = .int .i64 mx:=hg.1;unfold Runs execOp;simp [Act.eval,h35,go_sem,t2],rfl⟩)) ?_
   refine z48z ?_
   refine LinL.st [(0,none),(38,some 0)] rfl (op_yes (reads:=[(0,none)]) 17 38 0 false rfl rfl rfl (opmv (.pointer (some ⟨tb,0,none⟩)))) ?_
   refine LinL.st [(3,none),(38,some 1)] rfl (op_yes (reads:=[(3,none)]) 17 38 1 false rfl rfl rfl (opmv (.int .i64 mx))) ?_
   refine LinL.step (s:=(.val (.bool false))) [(39,some 1),(40,some 0),(38,some 2)] rfl (by kernel_rfl) (op_yes (reads:=[(39,some 1),(40,some 0)]) 17 38 2 false rfl rfl rfl (op_calls 61 #[(.tmp 39),(.tmp 40)] #[92,3] (fun σ => #[.pointer (some ⟨tb,0,none⟩), .int .i64 mx]) rfl rfl (fun _ _=>rfl) fun σ w' hx hg=>⟨by have h39 : σ.tmps.getD 39 undef = .pointer (some ⟨tb,0,none⟩):=hg.1;have h40 : σ.tmps.getD 40 undef = .int .i64 mx:=hg.2.1;simp only [List.map_toArray,List.map_cons,List.map_nil,Act.eval,h39,h40],rdV (isKnown_turn (HT.ext hx) hkn.out)⟩)) ?_
   refine LinL.step (s:=(.val (.bool true))) [(41,some 0),(38,some 3)] rfl (by kernel_rfl) (op_yes (reads:=[(41,some 0)]) 17 38 3 false rfl rfl rfl (op_runs rfl fun σ w' hx hg=>⟨(.bool true),by have h41 : σ.tmps.getD 41 undef = .bool false:=hg.1;unfold Runs execOp;simp [Act.eval,h41,go_sem],rfl⟩)) ?_
   refine LinL.step (s:=(.val (.bool true))) [(38,some 4),(42,some 0)] rfl (by kernel_rfl) (op_runs rfl fun σ w' hx hg=>⟨_,runs_pick_f (ρ := σ.eval) (w:=w') (.tmp 38) (.const (.bool true)) (.tmp 42) rfl hg.1 hg.2.1,rfl⟩) ?_
   refine z3z ?_
   intro wN hxN
   refine z15z ?_
   replace hX:=hX.trans (hxd.trans hxN);clear hxd hxN HT FT F0
   go_wp2
   go_ret
   exact z1kz
  have hkn:=hide_ hk
  by_cases h3:c.vw < c.view
  rotate_left
  ·have t3:decide (c.view≤c.vw) = true:=decide_eq_true (by omega)
   rw [if_neg (fun q=>h3 q.2.2)] at hr0
   subst hr0
   clear h hv0 hpp h1 h2 hk h3
   go_enter Tryz.func46,Tryz.ntmps46
   go_wp2
   refine zmz ?_;intro wd hxd;have HT:=hT.out.ext (hX.trans hxd);have FT:=HT.turn;have F0:=HT.cor.obj
   refine z1z ?_
   intro wN hxN
   refine z15z ?_
   replace hX:=hX.trans (hxd.trans hxN);clear hxd hxN HT FT F0
   go_wp2
   refine zmz ?_;intro wd hxd;have HT:=hT.out.ext (hX.trans hxd);have FT:=HT.turn;have F0:=HT.cor.obj
   refine z6qz ?_
   refine z13z ?_
   refine z9z ?_
   refine LinL.step (s:=(.val (.bool true))) [(53,some 8),(61,some 0),(44,some 17)] rfl (by kernel_rfl) (op_yes (reads:=[(53,some 8),(61,some 0)]) 23 44 17 false rfl rfl rfl (op_runs rfl fun σ w' hx hg=>⟨(.bool true),by have h53 : σ.tmps.getD 53 undef = .int .i64 c.vw:=hg.1;have h61 : σ.tmps.getD 61 undef = .int .i64 c.view:=hg.2.1;unfold Runs execOp;simp [Act.eval,h53,h61,go_sem,t3],rfl⟩)) ?_
   refine LinL.step (s:=(.val (.bool true))) [(44,some 18),(62,some 0)] rfl (by kernel_rfl) (op_runs rfl fun σ w' hx hg=>⟨_,runs_pick_f (ρ := σ.eval) (w:=w') (.tmp 44) (.const (.bool true)) (.tmp 62) rfl hg.1 hg.2.1,rfl⟩) ?_
   intro wN hxN
   refine z15z ?_
   replace hX:=hX.trans (hxd.trans hxN);clear hxd hxN HT FT F0
   go_wp2
   go_ret
   exact z1kz
  have t3:decide (c.view≤c.vw) = false:=decide_eq_false (by omega)
  rw [if_pos ⟨h2,hk,h3⟩] at hr0
  subst hr0
  clear h hv0 hpp h1 h2 hk h3
  go_enter Tryz.func46,Tryz.ntmps46
  go_wp2
  refine zmz ?_;intro wd hxd;have HT:=hT.out.ext (hX.trans hxd);have FT:=HT.turn;have F0:=HT.cor.obj
  refine z1z ?_
  intro wN hxN
  refine z15z ?_
  replace hX:=hX.trans (hxd.trans hxN);clear hxd hxN HT FT F0
  go_wp2
  refine zmz ?_;intro wd hxd;have HT:=hT.out.ext (hX.trans hxd);have FT:=HT.turn;have F0:=HT.cor.obj
  refine z6qz ?_
  refine z13z ?_
  refine z9z ?_
  refine LinL.step (s:=(.val (.bool false))) [(53,some 8),(61,some 0),(44,some 17)] rfl (by kernel_rfl) (op_yes (reads:=[(53,some 8),(61,some 0)]) 23 44 17 false rfl rfl rfl (op_runs rfl fun σ w' hx hg=>⟨(.bool false),by have h53 : σ.tmps.getD 53 undef = .int .i64 c.vw:=hg.1;have h61 : σ.tmps.getD 61 undef = .int .i64 c.view:=hg.2.1;unfold Runs execOp;simp [Act.eval,h53,h61,go_sem,t3],rfl⟩)) ?_
  refine LinL.step (s:=(.val (.bool false))) [(44,some 18),(62,some 0)] rfl (by kernel_rfl) (op_runs rfl fun σ w' hx hg=>⟨_,runs_pick_f (ρ := σ.eval) (w:=w') (.tmp 44) (.const (.bool true)) (.tmp 62) rfl hg.1 hg.2.1,rfl⟩) ?_
  intro wN hxN
  refine z15z ?_
  replace hX:=hX.trans (hxd.trans hxN);clear hxd hxN HT FT F0
  go_wp2
  refine zmz ?_;intro wd hxd;have HT:=hT.out.ext (hX.trans hxd);have FT:=HT.turn;have F0:=HT.cor.obj
  refine Ph.gate 0 17 (by kernel_rfl) ?_
  refine z13z ?_
  refine LinL.st [(64,some 0)] rfl opnl ?_
  refine LinL.st [(65,some 0)] rfl (opfb 0 0 0 tb) ?_
  refine LinL.st [(66,some 0)] rfl (opld (.pointer (some ⟨p,0,none⟩)) FT) ?_
  refine LinL.st [(3,none)] rfl (opmv (.int .i64 mx)) ?_
  refine z13z ?_
  refine LinL.st [(69,some 0)] rfl opnl ?_
  refine LinL.st [(70,some 0)] rfl (opfb 0 0 0 tb) ?_
  refine LinL.st [(71,some 0)] rfl (opld (.pointer (some ⟨p,0,none⟩)) FT) ?_
  refine LinL.st [(72,some 0)] rfl opnl ?_
  refine LinL.st [(73,some 0)] rfl (opfb 6 6 6 p) ?_
  refine LinL.st [(74,some 0)] rfl (opfb 0 0 6 p) ?_
  refine LinL.st [(75,some 0)] rfl (opld (.int .i64 c.view) F0) ?_
  refine LinL.step (s:=(.val (.agg #[.int .i64 mx, .int .i64 c.view]))) [(68,some 8),(76,some 0)] rfl (by kernel_rfl) (op_runs rfl fun σ w' hx hg=>⟨_,runs_sbuild (ρ := σ.eval) (w:=w') Tryz.stPrepS [.int .i64 mx, .int .i64 c.view] (ps:=#[(0, .tmp 68),(1, .tmp 76)]) rfl (by have h68 : σ.tmps.getD 68 undef = .int .i64 mx:=hg.1;have h76 : σ.tmps.getD 76 undef = .int .i64 c.view:=hg.2.1;simp only [List.map_cons,List.map_nil,Act.eval,h68,h76,List.foldl_cons,List.foldl_nil,List.set_cons_zero,List.set_cons_succ]) (by have h68 : σ.tmps.getD 68 undef = .int .i64 mx:=hg.1;have h76 : σ.tmps.getD 76 undef = .int .i64 c.view:=hg.2.1;intro p hp;simp at hp;rcases hp with rfl|rfl;exact ⟨by decide,by show (σ.tmps.getD 68 undef).cells = #[σ.tmps.getD 68 undef];rw [h68];exact rfl⟩;exact ⟨by decide,by show (σ.tmps.getD 76 undef).cells = #[σ.tmps.getD 76 undef];rw [h76];exact rfl⟩),rfl⟩) ?_
  refine LinL.st [(67,some 10)] rfl opnl ?_
  refine LinL.st [(78,some 0)] rfl (opfb 6 6 6 p) ?_
  refine LinL.st [(79,some 0)] rfl (opfb 7 8 14 p) ?_
  intro wN hxN
  refine z7gz ?_
  refine w_storeB Tryz.stPrep (pre:=[.int .i64 (c.me:Nat),sv, .int .i64 c.base, .int .i64 c.most,dv, .int .i64 c.tip, .int .i64 c.view, .int .i64 c.step, .int .i64 c.left, .pointer (some ⟨q,0,none⟩), .map (some gp), .map (some gs), .int .i64 c.lv, .int .i64 c.lw]) (old:=[.int .i64 c.vv, .int .i64 c.vw]) (us:=[.int .i64 mx, .int .i64 c.view]) (post:=[]) _ _ rfl rfl rfl rfl rfl (F0.ext hxN) rfl rfl rfl (by intro u hu;simp only [List.mem_cons,List.not_mem_nil,or_false] at hu;rcases hu with rfl|rfl <;> rfl) ?_;intro w9 hm9 f9
  show Ph Tryz.prog _ _ 18 _ _
  refine Ph.rest 18 0 (by kernel_rfl) ?_
  intro wM hxM
  refine zuz ?_
  have hTN:=HT.ext hxN
  have hCN:=hTN.cor.cell (d:=({ c with vv:=mx,vw:=c.view }:CoD)) hm9 f9 ⟨rfl,rfl,rfl,rfl,rfl,rfl⟩ hTN.cor.lft
  have hsN:=hTN.cor.stpCell hm9
  have hT5:=hide_ ((hTN.core hsN hCN rfl).ext hxM)
  have hS5:=hide_ (((Stp.ofExt (lo:=1) (hi:=8) (hX.trans (hxd.trans hxN)) hT.out.bnd).trans (hsN.wide (by omega) (by omega))).trans (Stp.ofExt hxM hCN.bnd))
  go_wp2
  go_ret
  exact Keep.intro ⟨rfl,S,⟨_,_,_,_,_,_,by rw [Option.getD_some];exact hT5.out⟩,hS5.out⟩
end Go.Proofs.YtdoeoncmhaihbaaGreat
