/- A message comes. · A tick comes. · A new core. · A vote of one's own out of a journal. · Agreement of a locking vote in views, as plain mathematics: who cast what when, and why it could; so no two decide two values for one index. No program. · What is cast and decided, as one list in the order of time, and why it could: so no two decide two values for one index. No program. -/
import Derived.Test.YtdoeoncmhaihbaaGreatPk17
import Derived.Test.YtdoeoncmhaihbaaGreatFA
import Derived.Test.YtdoeoncmhaihbaaGreatPk05
namespace Go.Proofs.YtdoeoncmhaihbaaGreat
set_option maxHeartbeats 3200000
set_option maxRecDepth 100000
open Go.RowKit
section
variable {S S':Nat→Nat} {w w1 w':World} {p q gp gs:Nat} {sv dv kv:Value} {c:CoD}
theorem Stp.pre {lo hi:Nat} (hx:Ext w w1) (h:Stp lo hi S S' w1 w'):Stp lo hi S S' w w':=⟨(hx.mod fun k=>lo≤S k∧S k≤hi).trans h.mod fun _ _ e=>e,fun k hk=>h.same k (Nat.lt_of_lt_of_le hk hx.size),h.bnd⟩
theorem CorW.low {sv' dv':Value} {q' gp' gs':Nat} (h:CorW S' w' p sv' dv' q' gp' gs' c) (h6:∀ k,S k≤6) (hs:Stp 1 6 S S' w w'):∃ S2,CorW S2 w' p sv' dv' q' gp' gs' c∧Stp 1 6 S S2 w w'∧∀ k,S2 k≤6:=by
 have hb:∀ k,(if S' k≤6 then S' k else 0)≠0→k < w'.heap.size:=fun k hk=>by
  split at hk
  ·exact h.bnd k hk
  ·exact absurd rfl hk
 refine ⟨fun k=>if S' k≤6 then S' k else 0,h.relab (fun k _ h2=>if_pos h2) hb,⟨hs.mod,fun k hk => ?_,hb⟩,fun k => ?_⟩
 ·show (if S' k≤6 then S' k else 0) = S k
  rw [hs.same k hk,if_pos (h6 k)]
 ·show (if S' k≤6 then S' k else 0)≤6
  split <;> omega
theorem ks_stp (hk:∀ k,kv.ownBlock = some k→k < w.heap.size∧S k = 0) {lo hi:Nat} (hs:Stp lo hi S S' w w'):∀ k,kv.ownBlock = some k→k < w'.heap.size∧S' k = 0:=fun k h=>by
 obtain ⟨h1,h2⟩:=hk k h
 exact ⟨Nat.lt_of_lt_of_le h1 hs.size,by rw [hs.same k h1];exact h2⟩
theorem CorW.outs (h:CorW S w p sv dv q gp gs c) (o:List AcV):CorW S w p sv dv q gp gs { c with out:=o }:=⟨h.obj,h.lab,h.stk,h.sto,h.dec,h.tal,h.prp,h.sad,h.bnd,h.lft,h.me⟩
theorem Cor.outs (h:Cor S w p c) (o:List AcV):Cor S w p { c with out:=o }:=by
 obtain ⟨sv,dv,q,gp,gs,h⟩:=h
 exact ⟨sv,dv,q,gp,gs,h.outs o⟩
theorem Cor.flush (h:Cor S w p c):Cor S w p c.flush:=h.outs []
end
theorem hear_out (c:CoD) (m:MsV):(c.hear m).out = c.out:=by
 unfold CoD.hear
 split
 ·split <;> rfl
 ·split
  ·split <;> rfl
  ·rfl
theorem mu_room (c:CoD) (h:0≤c.view) (hs:0≤c.step):c.mu≤10018015:=by
 unfold CoD.mu CoD.muV
 have h1:(1001 - c.dec.length) * 10000≤1001 * 10000:=Nat.mul_le_mul_right _ (by omega)
 have h2:(1000 - c.view).toNat≤1000:=by omega
 have h3:(3 - c.step).toNat≤3:=by omega
 split <;> omega
theorem mu_len {c:CoD} (h:0≤c.view) (hs:0≤c.step) {n:Nat} (hn:n≤4):(n + c.mu + 1) * 128≤140737488355328:=by
 have:=mu_room c h hs
 exact Nat.le_trans (Nat.mul_le_mul_right 128 (show n + c.mu + 1≤10018020 by generalize c.mu = m at this ⊢;omega)) (by decide)
theorem handle_core {S:Nat→Nat} {w:World} {p q gp gs:Nat} {sv dv kv:Value} {kn:List Int} {c:CoD} {d:MsgD} {u:Value} {i0:Int} (h:CorW S w p sv dv q gp gs c) (h6:∀ k,S k≤6) (hsp0:Spk NV i0 c) (ho:c.out = []) (hR:3≤d.kd→d.msv.Ok NV) (hf0:0≤d.fm) (hk6:d.kd≤6) (hk0:Ints w kv kn) (hks0:∀ k,kv.ownBlock = some k→k < w.heap.size∧S k = 0) :
  Calls Tryz.prog 8 #[.pointer (some ⟨p,0,none⟩), .agg (mRow d u).toArray,kv] w fun e w' => ∃ S' ov,e = .returned ov∧Cor S' w' p (c.handle d.msv kn)∧(∀ k,S' k≤6)∧RowN (fun k=>w.heap.size≤k∧S' k = 0) w' 53 14 ov ((c.handle d.msv kn).out.map acRow)∧(∀ k,ov.ownBlock = some k→w.heap.size≤k∧S' k = 0)∧Stp 1 6 S S' w w':=by
 refine z2rz ?_
 have hC:=hide_ h
 have hX:=Ext.refl w
 have hS6:=hide_ h6
 have hout:=hide_ ho
 have hkv:=hide_ hk0
 have hks:=hide_ hks0
 obtain ⟨nd,hnd0⟩:∃ b,decide (0≤d.fm∧d.fm < (c.t.length:Int)) = b:=⟨_,rfl⟩
 have hnd:=hide_ hnd0
 cases nd with
 | false =>
  have hfin:=hide_ (show c.handle d.msv kn = c from by
   unfold CoD.handle
   rw [if_pos (.inr (.inl (show (c.t.length:Int)≤d.fm by have:=of_decide_eq_false hnd0;omega)))])
  clear h h6 hsp0 ho hR hf0 hk6 hk0 hks0 hnd0
  go_enter Tryz.func8,Tryz.ntmps8
  go_wp2_with ((first | go_big_skip | (refine z1sz ?_;intro g4 w1 hg40 hx f4;have hg4:=hide_ (Nat.le_trans hX.size hg40);clear hg40;replace hX:=hX.trans hx;clear hx) | (go_at_call 22;refine (isNode_core (hC.out.ext hX) hnd.out).mono ?_;rintro e w2 ⟨rfl,hx⟩;replace f4:=f4.ext hx;replace hX:=hX.trans hx;clear hx) | refine z2kz ?_ | fail) <;> (try refine z0z ?_))
  go_ret
  exact z2fz
 | true =>
 have hnd1:=of_decide_eq_true hnd0
 by_cases hk3:d.kd < 3
 ·have t3:decide (d.kd < 3) = true:=decide_eq_true hk3
  have hfin:=hide_ (show c.handle d.msv kn = c from by
   unfold CoD.handle
   rw [if_pos (.inl hk3)])
  clear h h6 hsp0 ho hR hf0 hk6 hk0 hks0 hnd0 hnd1 hk3
  go_enter Tryz.func8,Tryz.ntmps8
  go_wp2_with ((first | go_big_skip | (refine z1sz ?_;intro g4 w1 hg40 hx f4;have hg4:=hide_ (Nat.le_trans hX.size hg40);clear hg40;replace hX:=hX.trans hx;clear hx) | (go_at_call 22;refine (isNode_core (hC.out.ext hX) hnd.out).mono ?_;rintro e w2 ⟨rfl,hx⟩;replace f4:=f4.ext hx;replace hX:=hX.trans hx;clear hx) | refine z2kz ?_ | fail) <;> (try refine z0z ?_))
  go_ret
  exact z2fz
 ·have t3:decide (d.kd < 3) = false:=decide_eq_false hk3
  have t4:decide (d.kd > 6) = false:=decide_eq_false (by omega)
  have t5:decide (6 < d.kd) = false:=decide_eq_false (by omega)
  have hok0:=hR (by omega)
  obtain ⟨ix,hix0⟩:∃ i,(c.dec.length:Int) = i:=⟨_,rfl⟩
  have hix:=hide_ hix0
  by_cases hlt:d.ix < ix
  ·have tlt:decide (d.ix < ix) = true:=decide_eq_true hlt
   have hin:=hide_ (show 0≤d.ix∧d.ix < (c.dec.length:Int) from ⟨hok0.1.1,by omega⟩)
   have hfin:=hide_ (show c.handle d.msv kn = { c with out:=c.told d.msv } from by
    unfold CoD.handle CoD.told
    rw [if_neg (show ¬ (d.msv.kd < 3∨(c.t.length:Int)≤d.msv.fm∨c.idx < d.msv.ix) from fun q=>by
     rcases q with q | q | q
     ·exact hk3 q
     ·have q':(c.t.length:Int)≤d.fm:=q;omega
     ·have q':(c.dec.length:Int) < d.ix:=q;omega),if_pos (show d.msv.ix < c.idx from by show d.ix < (c.dec.length:Int);omega)]
    by_cases e:d.msv.kd = 6
    ·rw [if_pos e,if_pos e, ← ho]
    ·rw [if_neg e,if_neg e,ho];rfl)
   clear h h6 hsp0 ho hR hf0 hk6 hk0 hks0 hnd0 hnd1 hk3 hok0 hix0 hlt
   go_enter Tryz.func8,Tryz.ntmps8
   go_wp2_with ((first | go_big_skip | (refine z1sz ?_;intro g4 w1 hg40 hx f4;have hg4:=hide_ (Nat.le_trans hX.size hg40);clear hg40;replace hX:=hX.trans hx;clear hx) | (go_at_call 22;refine (isNode_core (hC.out.ext hX) hnd.out).mono ?_;rintro e w2 ⟨rfl,hx⟩;replace f4:=f4.ext hx;replace hX:=hX.trans hx;clear hx) | refine z2kz ?_ | fail) <;> (try refine z0z ?_))
   refine zmz ?_;intro wd hxd;have HC:=hC.out.ext (hX.trans hxd);have F4:=f4.ext hxd
   refine z6rz ?_
   refine z1tz ?_
   refine z1zz ?_
   refine LinL.step (s:=(.val (.bool true))) [(24,some 2),(26,some 0)] rfl (by kernel_rfl) (op_runs rfl fun σ w' hx hg=>⟨(.bool true),by have h24 : σ.tmps.getD 24 undef = .int .i64 d.ix:=hg.1;have h26 : σ.tmps.getD 26 undef = .int .i64 ix:=hg.2.1;unfold Runs execOp;simp [Act.eval,h24,h26,go_sem,tlt],rfl⟩) ?_
   intro wN hxN
   refine z15z ?_
   replace hX:=hX.trans (hxd.trans hxN);replace f4:=f4.ext (hxd.trans hxN);clear hxd hxN HC F4
   go_wp2_with ((first | ((with_reducible refine at_load ?_);refine w_loadN Tryz.stMsg _ (mRow d u) rfl rfl rfl f4 rfl mself_at ?_) | (go_at_call 23;refine (tell_core (hC.out.ext hX) hin.out).mono ?_;rintro e w3 ⟨ov,rfl,hx3,hrow⟩) | fail) <;> (try refine z0z ?_))
   go_ret
   have hg:∀ k,wN.heap.size≤k→w.heap.size≤k∧S k = 0:=fun k hk=>by
    have h1:=Nat.le_trans hX.size hk
    exact ⟨h1,Classical.byContradiction fun e=>by have:=hC.out.bnd k e;omega⟩
   exact Keep.intro ⟨S,ov,rfl,by rw [hfin.out];exact Cor.outs ⟨sv,dv,q,gp,gs,(hC.out.ext hX).ext hx3⟩ _,hS6.out,by rw [hfin.out];exact hrow.mono fun k hk=>hg k hk,fun k hk=>hg k (hrow.inF k hk),Stp.ofExt (hX.trans hx3) hC.out.bnd⟩
  ·have tlt:decide (d.ix < ix) = false:=decide_eq_false hlt
   by_cases hgt:ix < d.ix
   ·have tgt:decide (d.ix > ix) = true:=decide_eq_true hgt
    have hfin:=hide_ (show c.handle d.msv kn = c from by
     unfold CoD.handle
     rw [if_pos (.inr (.inr (show (c.dec.length:Int) < d.ix by omega)))])
    clear h h6 hsp0 ho hR hf0 hk6 hk0 hks0 hnd0 hnd1 hk3 hok0 hix0 hlt hgt
    go_enter Tryz.func8,Tryz.ntmps8
    go_wp2_with ((first | go_big_skip | (refine z1sz ?_;intro g4 w1 hg40 hx f4;have hg4:=hide_ (Nat.le_trans hX.size hg40);clear hg40;replace hX:=hX.trans hx;clear hx) | (go_at_call 22;refine (isNode_core (hC.out.ext hX) hnd.out).mono ?_;rintro e w2 ⟨rfl,hx⟩;replace f4:=f4.ext hx;replace hX:=hX.trans hx;clear hx) | refine z2kz ?_ | fail) <;> (try refine z0z ?_))
    refine zmz ?_;intro wd hxd;have HC:=hC.out.ext (hX.trans hxd);have F4:=f4.ext hxd
    refine z6rz ?_
    refine z1tz ?_
    refine z3tz ?_
    intro wN hxN
    refine z15z ?_
    replace hX:=hX.trans (hxd.trans hxN);replace f4:=f4.ext (hxd.trans hxN);clear hxd hxN HC F4
    go_wp2
    refine zmz ?_;intro wd hxd;have HC:=hC.out.ext (hX.trans hxd);have F4:=f4.ext hxd
    refine z45z ?_
    refine LinL.st [(31,some 0)] rfl (opld (.int .i64 d.ix) F4) ?_
    refine z1tz ?_
    refine z3hz ?_
    refine LinL.step (s:=(.val (.bool true))) [(32,some 2),(34,some 0)] rfl (by kernel_rfl) (op_runs rfl fun σ w' hx hg=>⟨(.bool true),by have h32 : σ.tmps.getD 32 undef = .int .i64 d.ix:=hg.1;have h34 : σ.tmps.getD 34 undef = .int .i64 ix:=hg.2.1;unfold Runs execOp;simp [Act.eval,h32,h34,go_sem,tgt],rfl⟩) ?_
    intro wN hxN
    refine z15z ?_
    replace hX:=hX.trans (hxd.trans hxN);replace f4:=f4.ext (hxd.trans hxN);clear hxd hxN HC F4
    go_wp2
    go_ret
    exact z2fz
   ·have tgt:decide (d.ix > ix) = false:=decide_eq_false hgt
    have hok:=hide_ hok0
    obtain ⟨j,hj0⟩:∃ j:Nat,d.fm = (j:Int):=⟨d.fm.toNat,by omega⟩
    have hj:=hide_ hj0
    have hjn:=hide_ (show j < c.t.length by omega)
    have hsh:=spk_hear hsp0 hok0
    have hsp2:=hide_ hsh
    have hout2:=hide_ (show (c.hear d.msv).out = [] from by rw [hear_out];exact ho)
    have hlen2:=hide_ (show ((c.hear d.msv).out.length + (c.hear d.msv).mu + 1) * 128≤140737488355328 from by
     rw [hear_out,ho]
     exact mu_len hsh.1.rv.1 hsh.1.rs.1 (Nat.zero_le 4))
    have hfin:=hide_ (show c.handle d.msv kn = (c.hear d.msv).settle kn from by
     unfold CoD.handle
     rw [if_neg (show ¬ (d.msv.kd < 3∨(c.t.length:Int)≤d.msv.fm∨c.idx < d.msv.ix) from fun q=>by
      rcases q with q | q | q
      ·exact hk3 q
      ·have q':(c.t.length:Int)≤d.fm:=q;omega
      ·have q':(c.dec.length:Int) < d.ix:=q;omega),if_neg (show ¬ d.msv.ix < c.idx from fun q=>by have q':d.ix < (c.dec.length:Int):=q;omega)])
    clear h h6 hsp0 ho hR hf0 hk6 hk0 hks0 hnd0 hnd1 hk3 hok0 hix0 hlt hgt hj0 hsh
    go_enter Tryz.func8,Tryz.ntmps8
    go_wp2_with ((first | go_big_skip | (refine z1sz ?_;intro g4 w1 hg40 hx f4;have hg4:=hide_ (Nat.le_trans hX.size hg40);clear hg40;replace hX:=hX.trans hx;clear hx) | (go_at_call 22;refine (isNode_core (hC.out.ext hX) hnd.out).mono ?_;rintro e w2 ⟨rfl,hx⟩;replace f4:=f4.ext hx;replace hX:=hX.trans hx;clear hx) | refine z2kz ?_ | fail) <;> (try refine z0z ?_))
    refine zmz ?_;intro wd hxd;have HC:=hC.out.ext (hX.trans hxd);have F4:=f4.ext hxd
    refine z6rz ?_
    refine z1tz ?_
    refine z3tz ?_
    intro wN hxN
    refine z15z ?_
    replace hX:=hX.trans (hxd.trans hxN);replace f4:=f4.ext (hxd.trans hxN);clear hxd hxN HC F4
    go_wp2
    refine zmz ?_;intro wd hxd;have HC:=hC.out.ext (hX.trans hxd);have F4:=f4.ext hxd
    refine z45z ?_
    refine LinL.st [(31,some 0)] rfl (opld (.int .i64 d.ix) F4) ?_
    refine z1tz ?_
    refine z3hz ?_
    refine LinL.step (s:=(.val (.bool false))) [(32,some 2),(34,some 0)] rfl (by kernel_rfl) (op_runs rfl fun σ w' hx hg=>⟨(.bool false),by have h32 : σ.tmps.getD 32 undef = .int .i64 d.ix:=hg.1;have h34 : σ.tmps.getD 34 undef = .int .i64 ix:=hg.2.1;unfold Runs execOp;simp [Act.eval,h32,h34,go_sem,tgt],rfl⟩) ?_
    intro wN hxN
    refine z15z ?_
    replace hX:=hX.trans (hxd.trans hxN);replace f4:=f4.ext (hxd.trans hxN);clear hxd hxN HC F4
    go_wp2_with ((first | ((with_reducible refine at_load ?_);refine w_loadN Tryz.stMsg _ (mRow d u) rfl rfl rfl f4 rfl mself_at ?_) | (go_at_call 24;refine (take_core (hC.out.ext hX) hok.out hj.out hjn.out).mono ?_;rintro e w3 ⟨rfl,S1,hC1,hs1⟩;obtain ⟨S2,hC20,hs20,h620⟩:=CorW.low hC1 hS6.out (Stp.pre hX hs1);have hC2:=hide_ hC20;have hs2:=hide_ hs20;have h62:=hide_ h620;have hkv2:=hide_ (ints_mod hkv.out hs20.mod fun k hk=>hs20.off (l:=0) (by omega) (hks.out k hk).2);have hks2:=hide_ (ks_stp hks.out hs20);clear hC1 hs1 hC20 hs20 h620) | (refine z4rz ?_;refine w_sbuild Tryz.stTurn [.pointer (some ⟨p,0,none⟩),kv, .slice none 0 0] rfl rfl rfl (by intro x hx;simp at hx;rcases hx with rfl|rfl;exact ⟨by decide,rfl⟩;exact ⟨by decide,oneCell_cells (Sl.one' hkv.out)⟩) ?_) | (refine z5pz ?_;intro tb wt htb hxt ft) | (refine z3ez ?_;refine w_astore Tryz.stTurn (us:=[.pointer (some ⟨p,0,none⟩),kv, .slice none 0 0]) _ _ rfl rfl rfl rfl rfl ft rfl rfl (by intro x hx;simp only [List.mem_cons,List.not_mem_nil,or_false] at hx;rcases hx with rfl|rfl|rfl;rfl;exact Sl.one' hkv.out;rfl) ?_;intro wu hmu fu;obtain ⟨S3,hT30,hsame0,htb70,hxu0⟩:=hC2.out.turn h62.out hxt htb hmu fu hkv2.out hks2.out hout2.out;have hT3:=hide_ hT30;have hsame:=hide_ hsame0;have hxu:=hide_ hxu0;have htb0:=hide_ htb;clear hT30 hsame0 htb70 hxu0 hxt ft hmu fu htb) | (go_at_call 25;refine (settle_turn hT3.out hsp2.out hlen2.out).mono ?_;rintro e w5 ⟨rfl,S5,⟨ov5,sv5,dv5,q5,gp5,gs5,hT50⟩,hs50⟩;have hT5:=hide_ hT50;have hs5:=hide_ hs50;clear hT50 hs50) | refine z27z ?_ | ((with_reducible refine at_load ?_);(try refine w_yes _ _ _ rfl rfl rfl ?_);refine w_fload _ rfl rfl rfl hT5.out.turn rfl (agg_of (by kernel_rfl)) ?_) | fail) <;> (try refine z0z ?_))
    go_ret
    obtain ⟨S6,d1,d2,d3,d4,d5⟩:=hT5.out.done h62.out hC2.out.bnd hsame.out htb0.out hxu.out hs5.out
    have hge:=hs2.out.size
    exact Keep.intro ⟨S6,ov5,rfl,by rw [hfin.out];exact d1,d2,by rw [hfin.out];exact d3.mono fun k hk=>⟨Nat.le_trans hge hk.1,hk.2⟩,fun k hk=>⟨Nat.le_trans hge (d4 k hk).1,(d4 k hk).2⟩,hs2.out.trans d5⟩
end Go.Proofs.YtdoeoncmhaihbaaGreat
namespace Go.Proofs.YtdoeoncmhaihbaaGreat
set_option maxHeartbeats 3200000
set_option maxRecDepth 100000
open Go.RowKit
theorem settle_len {N:Int→Prop} {i0:Int} {c:CoD} {kn:List Int} (h:Spk N i0 c) (h0:N 0):(c.settle kn).out.length≤c.out.length + c.mu:=by
 have:=settle_ind (kn:=kn) (fun d=>Spk N i0 d∧d.out.length + d.mu≤c.out.length + c.mu) (fun d e hd he=>⟨spk_step1 hd.1 h0 he,by
  have h1:=mu_step1 hd.1.1 he
  have h2:=step1_len he
  have h3:=hd.2
  generalize d.mu = a at h1 h3
  generalize e.mu = b at h1 ⊢
  omega⟩) ⟨h,Nat.le_refl _⟩
 exact Nat.le_trans (Nat.le_add_right _ _) this.2
theorem tock_rest {c:CoD} (h:c.step = 0):c.tock = c.enter 0:=if_pos h
theorem tock_wait {c:CoD} (h:¬ c.step = 0) (ht:¬ tck c.left = 0):c.tock = { c with left:=tck c.left }:=by
 unfold CoD.tock
 rw [if_neg h]
 exact if_neg ht
theorem tock_up {c:CoD} (h:¬ c.step = 0) (ht:tck c.left = 0):c.tock = CoD.gu { c with left:=tck c.left }:=by
 unfold CoD.tock
 rw [if_neg h]
 exact if_pos ht
theorem tck_in {x:Int} (h:0≤x∧x≤1000000):0≤tck x∧tck x≤1000000:=by unfold tck;omega
theorem gu_len (c:CoD):c.gu.out.length≤c.out.length + 1:=by
 unfold CoD.gu
 split
 ·exact castTo_len _ _ _ _
 ·split
  ·exact castTo_len _ _ _ _
  ·split
   ·exact enter_len _ _
   ·unfold CoD.to;simp
theorem tock_len {c:CoD}:c.tock.out.length≤c.out.length + 1:=by
 by_cases h:c.step = 0
 ·rw [tock_rest h];exact enter_len _ _
 ·by_cases ht:tck c.left = 0
  ·rw [tock_up h ht];exact gu_len _
  ·rw [tock_wait h ht];exact Nat.le_succ _
theorem tick_core {S:Nat→Nat} {w:World} {p q gp gs:Nat} {sv dv kv:Value} {kn:List Int} {c:CoD} {tip i0:Int} (h:CorW S w p sv dv q gp gs c) (h6:∀ k,S k≤6) (hsp0:Spk NV i0 c) (ho:c.out = []) (ht0:NV tip) (hk0:Ints w kv kn) (hks0:∀ k,kv.ownBlock = some k→k < w.heap.size∧S k = 0) :
  Calls Tryz.prog 11 #[.pointer (some ⟨p,0,none⟩),kv, .int .i64 tip] w fun e w' => ∃ S' ov,e = .returned ov∧Cor S' w' p (c.tick kn tip)∧(∀ k,S' k≤6)∧RowN (fun k=>w.heap.size≤k∧S' k = 0) w' 53 14 ov ((c.tick kn tip).out.map acRow)∧(∀ k,ov.ownBlock = some k→w.heap.size≤k∧S' k = 0)∧Stp 1 6 S S' w w':=by
 refine z2rz ?_
 have hC:=hide_ h
 have hX:=Ext.refl w
 have hS6:=hide_ h6
 have hout:=hide_ ho
 have hkv:=hide_ hk0
 have hks:=hide_ hks0
 obtain ⟨ob,hov0⟩:∃ b,decide (1000 < c.dec.length) = b:=⟨_,rfl⟩
 have hov:=hide_ hov0
 cases ob with
 | true =>
  have hfin:=hide_ (show c.tick kn tip = c from by
   unfold CoD.tick
   rw [if_pos (of_decide_eq_true hov0)])
  clear h h6 hsp0 ho ht0 hk0 hks0 hov0
  go_enter Tryz.func11,Tryz.ntmps11
  go_wp2_with (first | go_big_skip | (go_at_call 30;refine (isOver_core (hC.out.ext hX) hov.out).mono ?_;rintro e w2 ⟨rfl,hx⟩;replace hX:=hX.trans hx;clear hx) | fail)
  go_ret
  exact z2fz
 | false =>
 have hdl:c.dec.length≤1000:=by have:=of_decide_eq_false hov0;omega
 have hsp1:=spk_tip hsp0 ht0
 have hsp3:=spk_tock hsp1 hdl
 have hsp2:=hide_ hsp3
 have hout2:=hide_ (show ({ c with tip:=tip }:CoD).out = [] from ho)
 have hlen:(CoD.tock { c with tip:=tip }).out.length≤1:=Nat.le_trans (tock_len (c:={ c with tip:=tip })) (by show c.out.length + 1≤1;rw [ho];simp)
 have hmu:=mu_len hsp3.1.rv.1 hsp3.1.rs.1 (Nat.le_refl 4)
 have hlen2:=hide_ (show ((CoD.tock { c with tip:=tip }).out.length + (CoD.tock { c with tip:=tip }).mu + 1) * 128≤140737488355328 from Nat.le_trans (Nat.mul_le_mul_right 128 (Nat.succ_le_succ (Nat.add_le_add_right (Nat.le_trans hlen (show 1≤4 by decide)) _))) hmu)
 have hsp4:=spk_settle hsp3 NV.zero kn
 have hvr:=hide_ (show 0≤(CoD.settle (CoD.tock { c with tip:=tip }) kn).view∧(CoD.settle (CoD.tock { c with tip:=tip }) kn).view≤1000 from hsp4.1.rv)
 have hlen3:=hide_ (show ((CoD.settle (CoD.tock { c with tip:=tip }) kn).out.length + 3) * 128≤140737488355328 from by
  have h1:=settle_len (kn:=kn) hsp3 NV.zero
  have h2:=mu_room _ hsp3.1.rv.1 hsp3.1.rs.1
  have hl:(CoD.tock { c with tip:=tip }).out.length≤1:=hlen
  generalize (CoD.tock { c with tip:=tip }).mu = m at h1 h2
  exact Nat.le_trans (Nat.mul_le_mul_right 128 (show _≤10018020 by omega)) (by decide))
 have hvw:=hide_ (show -1≤c.vw from hsp0.1.vw.1)
 have hvr0:=hide_ (show 0≤c.view∧c.view≤1000 from hsp0.1.rv)
 have hlen1:=hide_ (show (c.out.length + 1) * 128≤140737488355328 from by rw [ho];decide)
 have hfin:=hide_ (show c.tick kn tip = ((CoD.tock { c with tip:=tip }).settle kn).resend from by
  unfold CoD.tick
  rw [if_neg (of_decide_eq_false hov0)])
 by_cases h1:c.step = 0
 ·have t0:(c.step == 0) = true:=by simp [h1]
  have htock:CoD.tock { c with tip:=tip } = CoD.enter { c with tip:=tip } 0:=tock_rest h1
  rw [htock] at hsp2 hlen2 hvr hlen3 hfin
  clear h h6 hsp0 ho ht0 hk0 hks0 hov0 hdl hsp1 hsp3 hlen hmu hsp4 h1 htock
  go_enter Tryz.func11,Tryz.ntmps11
  go_wp2_with ((first | go_big_skip | (go_at_call 30;refine (isOver_core (hC.out.ext hX) hov.out).mono ?_;rintro e w2 ⟨rfl,hx⟩;replace hX:=hX.trans hx;clear hx) | (refine z49z ?_;intro w3 hm3 f3;have hs2:=hide_ (Stp.pre hX ((hC.out.ext hX).stpCell hm3));have hC2:=hide_ ((hC.out.ext hX).cell (d:={ c with tip:=tip }) hm3 f3 ⟨rfl,rfl,rfl,rfl,rfl,rfl⟩ hC.out.lft);have hkv2:=hide_ (ints_mod hkv.out hs2.out.mod fun k hk=>hs2.out.off (l:=0) (by omega) (hks.out k hk).2);have hks2:=hide_ (ks_stp hks.out hs2.out);clear hm3 f3) | refine z39z ?_ | (refine z4rz ?_;refine w_sbuild Tryz.stTurn [.pointer (some ⟨p,0,none⟩),kv, .slice none 0 0] rfl rfl rfl (by intro x hx;simp at hx;rcases hx with rfl|rfl;exact ⟨by decide,rfl⟩;exact ⟨by decide,oneCell_cells (Sl.one' hkv.out)⟩) ?_) | (refine z5pz ?_;intro tb wt htb hxt ft) | (refine z3ez ?_;refine w_astore Tryz.stTurn (us:=[.pointer (some ⟨p,0,none⟩),kv, .slice none 0 0]) _ _ rfl rfl rfl rfl rfl ft rfl rfl (by intro x hx;simp only [List.mem_cons,List.not_mem_nil,or_false] at hx;rcases hx with rfl|rfl|rfl;rfl;exact Sl.one' hkv.out;rfl) ?_;intro wu hmu fu;obtain ⟨S3,hT30,hsame0,htb70,hxu0⟩:=hC2.out.turn hS6.out hxt htb hmu fu hkv2.out hks2.out hout2.out;have hT3:=hide_ hT30;have hsame:=hide_ hsame0;have hxu:=hide_ hxu0;have htb0:=hide_ htb;have hst:=hide_ (Stp.refl (lo:=1) (hi:=8) hT30.bnd);clear hT30 hsame0 htb70 hxu0 hxt ft hmu fu htb) | refine z2bz ?_ | (go_at_call 31;refine (enter_turn hT3.out (v:=0) (by omega) hvw.out hlen1.out).mono ?_;rintro e w4 ⟨rfl,S4,ov4,hT40,hs40⟩;replace hst:=hide_ (hst.out.trans hs40);replace hT3:=hide_ hT40;clear hT40 hs40) | (go_at_call 25;refine (settle_turn hT3.out hsp2.out hlen2.out).mono ?_;rintro e w5 ⟨rfl,S5,⟨ov5,sv5,dv5,q5,gp5,gs5,hT50⟩,hs50⟩;have hT5:=hide_ hT50;replace hst:=hide_ (hst.out.trans hs50);clear hT50 hs50 hT3) | (go_at_call 34;refine (repeat_turn hT5.out hvr.out hlen3.out).mono ?_;rintro e w6 ⟨rfl,S6,⟨ov6,sv6,dv6,q6,gp6,gs6,hT60⟩,hs60⟩;have hT6:=hide_ hT60;replace hst:=hide_ (hst.out.trans hs60);clear hT60 hs60) | refine z27z ?_ | refine z4gz ?_ | fail) <;> (try refine z0z ?_))
  go_ret
  obtain ⟨S7,d1,d2,d3,d4,d5⟩:=hT6.out.done hS6.out hC2.out.bnd hsame.out htb0.out hxu.out hst.out
  have hge:=hs2.out.size
  exact z37z
 ·have t0:(c.step == 0) = false:=by simp [h1]
  have hl6:=hide_ (tck_in h.lft)
  have hstp:=hide_ (show 1≤c.step∧c.step≤3 from by have:=hsp0.1.rs;omega)
  obtain ⟨tb0,htk0⟩:∃ b,decide (tck c.left = 0) = b:=⟨_,rfl⟩
  have htk:=hide_ htk0
  cases tb0 with
  | true =>
   have htock:CoD.tock { c with tip:=tip } = CoD.gu { c with tip:=tip,left:=tck c.left }:=tock_up h1 (of_decide_eq_true htk0)
   rw [htock] at hsp2 hlen2 hvr hlen3 hfin
   clear h h6 hsp0 ho ht0 hk0 hks0 hov0 hdl hsp1 hsp3 hlen hmu hsp4 h1 htock htk0
   go_enter Tryz.func11,Tryz.ntmps11
   go_wp2_with ((first | go_big_skip | (go_at_call 30;refine (isOver_core (hC.out.ext hX) hov.out).mono ?_;rintro e w2 ⟨rfl,hx⟩;replace hX:=hX.trans hx;clear hx) | (refine z49z ?_;intro w3 hm3 f3;have hs2:=hide_ (Stp.pre hX ((hC.out.ext hX).stpCell hm3));have hC2:=hide_ ((hC.out.ext hX).cell (d:={ c with tip:=tip }) hm3 f3 ⟨rfl,rfl,rfl,rfl,rfl,rfl⟩ hC.out.lft);have hkv2:=hide_ (ints_mod hkv.out hs2.out.mod fun k hk=>hs2.out.off (l:=0) (by omega) (hks.out k hk).2);have hks2:=hide_ (ks_stp hks.out hs2.out);clear hm3 f3) | refine z39z ?_ | (refine z4rz ?_;refine w_sbuild Tryz.stTurn [.pointer (some ⟨p,0,none⟩),kv, .slice none 0 0] rfl rfl rfl (by intro x hx;simp at hx;rcases hx with rfl|rfl;exact ⟨by decide,rfl⟩;exact ⟨by decide,oneCell_cells (Sl.one' hkv.out)⟩) ?_) | (refine z5pz ?_;intro tb wt htb hxt ft) | (refine z3ez ?_;refine w_astore Tryz.stTurn (us:=[.pointer (some ⟨p,0,none⟩),kv, .slice none 0 0]) _ _ rfl rfl rfl rfl rfl ft rfl rfl (by intro x hx;simp only [List.mem_cons,List.not_mem_nil,or_false] at hx;rcases hx with rfl|rfl|rfl;rfl;exact Sl.one' hkv.out;rfl) ?_;intro wu hmu fu;obtain ⟨S3,hT30,hsame0,htb70,hxu0⟩:=hC2.out.turn hS6.out hxt htb hmu fu hkv2.out hks2.out hout2.out;have hT3:=hide_ hT30;have hsame:=hide_ hsame0;have hxu:=hide_ hxu0;have htb0:=hide_ htb;have hst:=hide_ (Stp.refl (lo:=1) (hi:=8) hT30.bnd);clear hT30 hsame0 htb70 hxu0 hxt ft hmu fu htb) | refine z2bz ?_ | (go_at_call 32;refine (Tick_at hT3.out.cor.obj (i:=8) (x:=c.left) rfl (by have:=hC.out.lft;omega)).mono ?_;rintro e w4 ⟨rfl,hm4,f4⟩;have hT40:=hT3.out.core (hT3.out.cor.stpCell hm4) (hT3.out.cor.cell (d:={ c with tip:=tip,left:=tck c.left }) hm4 f4 ⟨rfl,rfl,rfl,rfl,rfl,rfl⟩ hl6.out) rfl;replace hst:=hide_ (hst.out.trans ((hT3.out.cor.stpCell hm4).wide (by omega) (by omega)));replace hT3:=hide_ hT40;clear hT40 hm4 f4;rw [htk.out]) | (go_at_call 33;refine (giveUp_turn hT3.out hstp.out hvr0.out hvw.out hlen1.out).mono ?_;rintro e w4 ⟨rfl,S4,⟨ov4,sv4,dv4,q4,gp4,gs4,hT40⟩,hs40⟩;replace hst:=hide_ (hst.out.trans hs40);replace hT3:=hide_ hT40;clear hT40 hs40) | (go_at_call 25;refine (settle_turn hT3.out hsp2.out hlen2.out).mono ?_;rintro e w5 ⟨rfl,S5,⟨ov5,sv5,dv5,q5,gp5,gs5,hT50⟩,hs50⟩;have hT5:=hide_ hT50;replace hst:=hide_ (hst.out.trans hs50);clear hT50 hs50 hT3) | (go_at_call 34;refine (repeat_turn hT5.out hvr.out hlen3.out).mono ?_;rintro e w6 ⟨rfl,S6,⟨ov6,sv6,dv6,q6,gp6,gs6,hT60⟩,hs60⟩;have hT6:=hide_ hT60;replace hst:=hide_ (hst.out.trans hs60);clear hT60 hs60) | refine z27z ?_ | refine z4gz ?_ | fail) <;> (try refine z0z ?_))
   go_ret
   obtain ⟨S7,d1,d2,d3,d4,d5⟩:=hT6.out.done hS6.out hC2.out.bnd hsame.out htb0.out hxu.out hst.out
   have hge:=hs2.out.size
   exact z37z
  | false =>
   have htock:CoD.tock { c with tip:=tip } = { c with tip:=tip,left:=tck c.left }:=tock_wait h1 (of_decide_eq_false htk0)
   rw [htock] at hsp2 hlen2 hvr hlen3 hfin
   clear h h6 hsp0 ho ht0 hk0 hks0 hov0 hdl hsp1 hsp3 hlen hmu hsp4 h1 htock htk0
   go_enter Tryz.func11,Tryz.ntmps11
   go_wp2_with ((first | go_big_skip | (go_at_call 30;refine (isOver_core (hC.out.ext hX) hov.out).mono ?_;rintro e w2 ⟨rfl,hx⟩;replace hX:=hX.trans hx;clear hx) | (refine z49z ?_;intro w3 hm3 f3;have hs2:=hide_ (Stp.pre hX ((hC.out.ext hX).stpCell hm3));have hC2:=hide_ ((hC.out.ext hX).cell (d:={ c with tip:=tip }) hm3 f3 ⟨rfl,rfl,rfl,rfl,rfl,rfl⟩ hC.out.lft);have hkv2:=hide_ (ints_mod hkv.out hs2.out.mod fun k hk=>hs2.out.off (l:=0) (by omega) (hks.out k hk).2);have hks2:=hide_ (ks_stp hks.out hs2.out);clear hm3 f3) | refine z39z ?_ | (refine z4rz ?_;refine w_sbuild Tryz.stTurn [.pointer (some ⟨p,0,none⟩),kv, .slice none 0 0] rfl rfl rfl (by intro x hx;simp at hx;rcases hx with rfl|rfl;exact ⟨by decide,rfl⟩;exact ⟨by decide,oneCell_cells (Sl.one' hkv.out)⟩) ?_) | (refine z5pz ?_;intro tb wt htb hxt ft) | (refine z3ez ?_;refine w_astore Tryz.stTurn (us:=[.pointer (some ⟨p,0,none⟩),kv, .slice none 0 0]) _ _ rfl rfl rfl rfl rfl ft rfl rfl (by intro x hx;simp only [List.mem_cons,List.not_mem_nil,or_false] at hx;rcases hx with rfl|rfl|rfl;rfl;exact Sl.one' hkv.out;rfl) ?_;intro wu hmu fu;obtain ⟨S3,hT30,hsame0,htb70,hxu0⟩:=hC2.out.turn hS6.out hxt htb hmu fu hkv2.out hks2.out hout2.out;have hT3:=hide_ hT30;have hsame:=hide_ hsame0;have hxu:=hide_ hxu0;have htb0:=hide_ htb;have hst:=hide_ (Stp.refl (lo:=1) (hi:=8) hT30.bnd);clear hT30 hsame0 htb70 hxu0 hxt ft hmu fu htb) | refine z2bz ?_ | (go_at_call 32;refine (Tick_at hT3.out.cor.obj (i:=8) (x:=c.left) rfl (by have:=hC.out.lft;omega)).mono ?_;rintro e w4 ⟨rfl,hm4,f4⟩;have hT40:=hT3.out.core (hT3.out.cor.stpCell hm4) (hT3.out.cor.cell (d:={ c with tip:=tip,left:=tck c.left }) hm4 f4 ⟨rfl,rfl,rfl,rfl,rfl,rfl⟩ hl6.out) rfl;replace hst:=hide_ (hst.out.trans ((hT3.out.cor.stpCell hm4).wide (by omega) (by omega)));replace hT3:=hide_ hT40;clear hT40 hm4 f4;rw [htk.out]) | (go_at_call 25;refine (settle_turn hT3.out hsp2.out hlen2.out).mono ?_;rintro e w5 ⟨rfl,S5,⟨ov5,sv5,dv5,q5,gp5,gs5,hT50⟩,hs50⟩;have hT5:=hide_ hT50;replace hst:=hide_ (hst.out.trans hs50);clear hT50 hs50 hT3) | (go_at_call 34;refine (repeat_turn hT5.out hvr.out hlen3.out).mono ?_;rintro e w6 ⟨rfl,S6,⟨ov6,sv6,dv6,q6,gp6,gs6,hT60⟩,hs60⟩;have hT6:=hide_ hT60;replace hst:=hide_ (hst.out.trans hs60);clear hT60 hs60) | refine z27z ?_ | refine z4gz ?_ | fail) <;> (try refine z0z ?_))
   go_ret
   obtain ⟨S7,d1,d2,d3,d4,d5⟩:=hT6.out.done hS6.out hC2.out.bnd hsame.out htb0.out hxu.out hst.out
   have hge:=hs2.out.size
   exact z37z
theorem run_cbuild (me base most:Int) (A:Option Addr) (n m:Nat) (q gp gs:Nat) (w:World):(Instr.build 72 #[(0, .int .i64 me),(1, .slice A n m),(2, .int .i64 base),(3, .int .i64 most),(6, .agg #[.int .i64 0, .int .i64 0, .int .i64 0, .pointer (some ⟨q,0,none⟩), .map (some gp), .map (some gs), .int .i64 0, .int .i64 (-1), .int .i64 0, .int .i64 (-1)])]).run Tryz.prog w = .ok (.agg #[.int .i64 me, .slice A n m, .int .i64 base, .int .i64 most, .slice none 0 0, .int .i64 0, .int .i64 0, .int .i64 0, .int .i64 0, .pointer (some ⟨q,0,none⟩), .map (some gp), .map (some gs), .int .i64 0, .int .i64 (-1), .int .i64 0, .int .i64 (-1)]) w:=by
 kernel_rfl
theorem w_cbuild {ops:Array Oper} {rest:List Oper} {o:Oper} {a:Act} {Q:Exit→Act→World→Prop} {w:World} (x0 x1 x2 x3 x6:Operand) {me base most:Int} {sv:Value} {q gp gs:Nat} (hs:∃ A n m,sv = .slice A n m) (hgd:o.guard = none) (ho:o.op = .build 72 #[(0,x0),(1,x1),(2,x2),(3,x3),(6,x6)]) (h0:a.eval x0 = .int .i64 me) (h1:a.eval x1 = sv) (h2:a.eval x2 = .int .i64 base) (h3:a.eval x3 = .int .i64 most) (h6:a.eval x6 = .agg #[.int .i64 0, .int .i64 0, .int .i64 0, .pointer (some ⟨q,0,none⟩), .map (some gp), .map (some gs), .int .i64 0, .int .i64 (-1), .int .i64 0, .int .i64 (-1)])
  (k:wpList Tryz.prog ops Q rest (a.put o.dst (.agg #[.int .i64 me,sv, .int .i64 base, .int .i64 most, .slice none 0 0, .int .i64 0, .int .i64 0, .int .i64 0, .int .i64 0, .pointer (some ⟨q,0,none⟩), .map (some gp), .map (some gs), .int .i64 0, .int .i64 (-1), .int .i64 0, .int .i64 (-1)])) w):wpList Tryz.prog ops Q (o :: rest) a w:=by
 obtain ⟨A,n,m,rfl⟩:=hs
 have hr:=run_cbuild me base most A n m q gp gs w
 refine wpList_runs hgd ?_ k
 unfold Runs execOp
 simp [ho,h0,h1,h2,h3,h6,hr]
theorem CorW.new {w w1 w2 w3:World} {t:List Int} {me:Nat} {base most:Int} {sv:Value} {p q gp gs:Nat} {X:Nat→Prop} (hx1:Ext w w1) (ho:OwnI w.heap.size w1 sv t) (hx2:Ext w1 w2) (n1:Tal X w2 q t T0 0) (n2:w2.ownsMap Tryz.prog 3 tok gp 0 (.map [])) (n3:w2.ownsMap Tryz.prog 3 tok gs 0 (.map []))
  (n4:∀ k,X k→w1.heap.size≤k∧k < w2.heap.size) (n5:w1.heap.size≤gp) (n6:w1.heap.size≤gs) (n7:¬ X gp) (n8:¬ X gs) (n9:gp≠gs) (hp:w2.heap.size≤p) (hx3:Ext w2 w3) (hf:Fs w3 p (coRow (CoD.new me t base most) sv (.slice none 0 0) q gp gs)) (hme:me < t.length) :
  ∃ S',CorW S' w3 p sv (.slice none 0 0) q gp gs (CoD.new me t base most)∧(∀ k,S' k≤6)∧∀ k,S' k≠0→w.heap.size≤k:=by
 have s1:=hx1.size
 have s2:=hx2.size
 have s3:=hx3.size
 have lp:=hf.lt
 have lgp:=n2.lt
 have lgs:=n3.lt
 refine ⟨fun k=>if k < w.heap.size then 0 else if k < w1.heap.size then 6 else if k = gp then 2 else if k = gs then 3 else if k < w2.heap.size then 5 else if k = p then 1 else 0, ?_,fun k => ?_,fun k hk => ?_⟩
 ·refine ⟨hf,⟨?_, ?_, ?_⟩,(ho.ints.ext hx2).ext hx3,fun k hk => ?_,Row.nil _ _, ?_,⟨0,_,by omega,ownsMap_ext n2 hx3,PrM.nil⟩,⟨0,_,by omega,ownsMap_ext n3 hx3,InM.nil,fun i hi=>absurd rfl hi⟩,fun k hk => ?_,⟨Int.le_refl _,by show (0:Int)≤1000000;omega⟩,hme⟩
  ·rw [if_neg (by omega),if_neg (by omega),if_neg (by omega),if_neg (by omega),if_neg (by omega),if_pos rfl]
  ·rw [if_neg (by omega),if_neg (by omega),if_pos rfl]
  ·rw [if_neg (by omega),if_neg (by omega),if_neg (Ne.symm n9),if_pos rfl]
  ·obtain ⟨h1,h2⟩:=(show w1.ownsRow w.heap.size 3 1 sv (i64s t).length (i64s t) from ho).lt k hk
   rw [if_neg (by omega),if_pos h2]
  ·obtain ⟨a,b,D,m,ht⟩:=n1.tight
   refine ⟨a,b,D,m,(ht.ext hx3).mono fun k hk => ?_⟩
   have:=n4 k hk
   rw [if_neg (by omega),if_neg (by omega),if_neg (show ¬ k = gp from fun e=>n7 (e ▸ hk)),if_neg (show ¬ k = gs from fun e=>n8 (e ▸ hk)),if_pos this.2]
  ·(try dsimp only at hk)
   split at hk
   ·exact absurd rfl hk
   ·split at hk
    ·omega
    ·split at hk
     ·omega
     ·split at hk
      ·omega
      ·split at hk
       ·omega
       ·split at hk
        ·omega
        ·exact absurd rfl hk
 ·(try dsimp only)
  split <;> (try split) <;> (try split) <;> (try split) <;> (try split) <;> (try split) <;> omega
 ·(try dsimp only at hk)
  split at hk
  ·exact absurd rfl hk
  ·omega
theorem New_any {w:World} {v:Value} {t:List Int} {me:Nat} {base most:Int} (hv0:Ints w v t) (ht0:StOk t) (hm0:me < t.length) :
  Calls Tryz.prog 7 #[.int .i64 (me:Nat),v, .int .i64 base, .int .i64 most] w fun e w' => ∃ p S',e = .returned (.pointer (some ⟨p,0,none⟩))∧Cor S' w' p (CoD.new me t base most)∧(∀ k,S' k≤6)∧(∀ k,S' k≠0→w.heap.size≤k)∧Ext w w':=by
 refine z2rz ?_
 have hv:=hide_ hv0
 have ht:=hide_ ht0
 have hm:=hide_ hm0
 have hlc:=hide_ (show t.length * 8≤140737488355328 by have:=ht0.2.1;omega)
 clear hv0 ht0 hm0
 go_enter Tryz.func7,Tryz.ntmps7
 go_wp2_with ((first | (go_at_call 20;refine (IClone_any hv.out hlc.out).mono ?_;rintro e w1 ⟨sv,rfl,ho,hx1⟩) | (go_at_call 21;refine (newRound_any ho.ints ht.out).mono ?_;rintro e w2 ⟨u2,rfl,⟨q,gp,gs,X,rfl,n1,n2,n3,n4,n5,n6,n7,n8,n9⟩,hx2⟩) | ((with_reducible refine at_sbuild ?_);refine w_cbuild (.tmp 12) (.tmp 13) (.tmp 14) (.tmp 15) (.tmp 17) (me:=(me:Nat)) (base:=base) (most:=most) (sv:=sv) (q:=q) (gp:=gp) (gs:=gs) (by obtain ⟨A,cc,hxv,_⟩:=ho.ints;exact ⟨_,_,_,hxv⟩) rfl rfl rfl rfl rfl rfl rfl ?_) | ((with_reducible refine at_box ?_);refine w_box _ (coRow (CoD.new me t base most) sv (.slice none 0 0) q gp gs) rfl rfl rfl rfl ?_;intro p w3 hp hx3 hf) | fail) <;> (try refine z0z ?_))
 obtain ⟨S',hC,h6,hlo⟩:=CorW.new hx1 ho hx2 n1 n2 n3 n4 n5 n6 n7 n8 n9 hp hx3 hf hm.out
 go_ret
 exact Keep.intro ⟨p,S',rfl,⟨_,_,_,_,_,hC⟩,h6,hlo,hx1.trans (hx2.trans hx3)⟩
def rcRow (r:RcV):List Value:=[.int .i64 r.kd, .int .i64 r.ix, .int .i64 r.vw, .int .i64 r.vl, .slice none 0 0]
theorem Tryz.stRcd:St Tryz.prog 83 5 [.int .i64 0, .int .i64 0, .int .i64 0, .int .i64 0, .slice none 0 0]:=St.of (by kernel_rfl) (by kernel_rfl) rfl
theorem Tryz.stPr2:St Tryz.prog 67 2 [.int .i64 0, .int .i64 0]:=St.of (by kernel_rfl) (by kernel_rfl) rfl
def RcK (r:RcV):Prop:=(4≤r.kd∧r.kd≤6)∧In64 r.ix∧(0≤r.vw∧r.vw≤1000) ∧ -1≤r.vl∧In64 r.vl
def CoD.rv (c:CoD) (r:RcV):CoD :=
 if r.kd = 5∧r.vl ≠ -1∧c.lw < r.vw then { c with T:=vadd c.t.length c.T r.kd r.vw c.me r.vl,step:=2,view:=max c.view r.vw,lv:=r.vl,lw:=r.vw,vv:=r.vl,vw:=r.vw }
 else { c with T:=vadd c.t.length c.T r.kd r.vw c.me r.vl,step:=2,view:=max c.view r.vw }
theorem restoreVote_core {S:Nat→Nat} {w:World} {p q gp gs:Nat} {sv dv:Value} {c:CoD} {r:RcV} (h:CorW S w p sv dv q gp gs c) (hr:RcK r) (hme:c.me < c.t.length) :
  Calls Tryz.prog 36 #[.pointer (some ⟨p,0,none⟩), .agg (rcRow r).toArray] w fun e w'=>e = .returned (.tuple #[])∧∃ S',CorW S' w' p sv dv q gp gs (c.rv r)∧Stp 1 6 S S' w w':=by
 refine z2rz ?_
 have hC:=hide_ h
 have hX:=Ext.refl w
 have hkd64:=hide_ (show In64 r.kd from by have:=hr.1;unfold In64;omega)
 have hvw64:=hide_ (show In64 r.vw from by have:=hr.2.2.1;unfold In64;omega)
 have hvl64:=hide_ hr.2.2.2.2
 have hme64:=hide_ (show In64 (c.me:Int) from by have:=h.st.2.1;unfold In64;omega)
 by_cases h5:r.kd = 5
 rotate_left
 ·have t5:(r.kd == 5) = false:=by simpa using h5
  have hfin:=hide_ (show c.rv r = { c with T:=vadd c.t.length c.T r.kd r.vw c.me r.vl,step:=2,view:=max c.view r.vw } from if_neg fun x=>h5 x.1)
  clear h hr hme h5
  go_enter Tryz.func36,Tryz.ntmps36
  go_wp2_with ((first | (refine z2lz ?_;intro g3 w1 hg3 hx f3;have h3:=hide_ (show S g3 = 0 from Classical.byContradiction fun q0=>by have:=hC.out.bnd g3 q0;omega);replace hX:=hX.trans hx;clear hx) | fail) <;> (try refine z0z ?_))
  refine zmz ?_;intro wd hxd;have HC:=hC.out.ext (hX.trans hxd);have F0:=HC.obj;have F3:=f3.ext hxd
  refine z12z ?_
  intro wN hxN
  refine z24z ?_
  refine z4sz ?_;rintro e w4 ⟨X4,rfl,ht4,hu4,_⟩;refine ⟨_,rfl, ?_⟩
  refine z0z ?_
  refine z3rz ?_
  intro wM hxM
  refine zuz ?_
  rw [(addT_vadd _ _ _ _ _ _).1] at ht4
  obtain ⟨S1,hC10,hs10⟩:=(HC.ext hxN).vote hu4 ht4
  have hs1:=hide_ (((Stp.ofExt (lo:=1) (hi:=6) (hX.trans (hxd.trans hxN)) hC.out.bnd).trans hs10).trans (Stp.ofExt hxM hC10.bnd))
  have hC1:=hide_ (hC10.ext hxM)
  have hg3:=(F3.ext hxN).lt
  have h30:=hide_ (show S1 g3 = 0 from by rw [hs10.same g3 hg3];exact h3.out)
  have f3a:=hide_ ((((F3.ext hxN).mod hu4.mod (fun e=>by have e2:S g3 = 5:=e;rw [h3.out] at e2;omega))).ext hxM)
  clear hxd hxN hxM HC F0 F3 hu4 ht4 hs10 hC10 hg3 f3
  go_wp2_with ((first | refine z5dz ?_ | refine zhz ?_ | (refine z3gz ?_;intro w2 hm2 f2;have hC20:=hide_ (hC1.out.cell (d:={ c with T:=vadd c.t.length c.T r.kd r.vw c.me r.vl,step:=2 }) hm2 f2 ⟨rfl,rfl,rfl,rfl,rfl,rfl⟩ hC1.out.lft);have hs2:=hide_ (hs1.out.trans (hC1.out.stpCell hm2));have f3b:=hide_ (f3a.out.mod hm2 (fun q0=>by have h1:=hC1.out.lab.1;have h2:=h30.out;rw [q0,h1] at h2;omega));clear hm2 f2) | fail) <;> (try refine z0z ?_))
  obtain ⟨e,he0⟩:∃ e:CoD, { c with T:=vadd c.t.length c.T r.kd r.vw c.me r.vl,step:=2 } = e:=⟨_,rfl⟩
  have he:=hide_ he0
  rw [he0] at hC20
  have hC2:=hC20
  obtain ⟨z,hz0⟩:∃ z,max e.view r.vw = z:=⟨_,rfl⟩
  have hz:=hide_ hz0
  have hlw:=hide_ (show e.lw = c.lw from by rw [← he0])
  clear he0 hz0 hC20
  refine zmz ?_;intro wd hxd;have HC:=hC2.out.ext hxd;have F0:=HC.obj;have F3:=f3b.out.ext hxd
  refine zoz ?_
  intro wN hxN
  refine z7gz ?_
  refine z44z ?_;intro w9 hm9 f9
  refine z4tz ?_
  intro wM hxM
  refine zuz ?_
  have hCN:=HC.ext hxN
  have hC30:=hCN.cell (d:={ e with view:=z }) hm9 f9 ⟨rfl,rfl,rfl,rfl,rfl,rfl⟩ hCN.lft
  have hs3:=hide_ (hs2.out.trans (((Stp.ofExt (lo:=1) (hi:=6) (hxd.trans hxN) hC2.out.bnd).trans (hCN.stpCell hm9)).trans (Stp.ofExt hxM hC30.bnd)))
  have hC3:=hide_ (hC30.ext hxM)
  have f3c:=hide_ (((F3.ext hxN).mod hm9 (fun e=>by have h1:=hC2.out.lab.1;have h2:=h30.out;rw [e,h1] at h2;omega)).ext hxM)
  clear hxd hxN hxM HC F0 F3 hm9 f9 hCN hC30
  go_wp2
  refine zmz ?_;intro wd hxd;have F0:=hC3.out.obj.ext hxd;have F3:=f3c.out.ext hxd
  refine z6iz ?_
  refine LinL.step (s:=(.val (.bool false))) [(37,some 0)] rfl (by kernel_rfl) (op_runs rfl fun σ w' hx hg=>⟨(.bool false),by have h37 : σ.tmps.getD 37 undef = .int .i64 r.kd:=hg.1;unfold Runs execOp;simp [Act.eval,h37,go_sem,t5],rfl⟩) ?_
  refine LinL.st [(38,some 0)] rfl (opcp (.val (.bool false))) ?_
  refine LinL.step (s := .val undef) [(3,none),(39,some 0)] rfl (by kernel_rfl) (op_no (reads:=[(3,none)]) 3 39 0 true rfl rfl rfl) ?_
  refine LinL.step (s := .val undef) [(40,some 0),(39,some 1)] rfl (by kernel_rfl) (op_no (reads:=[(40,some 0)]) 3 39 1 true rfl rfl rfl) ?_
  refine LinL.step (s := .val undef) [(41,some 0),(39,some 2)] rfl (by kernel_rfl) (op_no (reads:=[(41,some 0)]) 3 39 2 true rfl rfl rfl) ?_
  refine LinL.step (s:=(.val (.bool false))) [(39,some 3),(42,some 0)] rfl (by kernel_rfl) (op_runs rfl fun σ w' hx hg=>⟨_,runs_pick_f (ρ := σ.eval) (w:=w') (.tmp 39) (.tmp 42) (.const (.bool false)) rfl hg.1 rfl,rfl⟩) ?_
  refine z17z ?_
  intro wN hxN
  refine z15z ?_
  have hxA:=hxd.trans hxN;clear hxd hxN F0 F3
  go_wp2
  go_end0
  exact z3yz
 have t5:(r.kd == 5) = true:=by simpa using h5
 by_cases h6:r.vl = -1
 ·have t6:(r.vl != -1) = false:=by simp [h6]
  have hfin:=hide_ (show c.rv r = { c with T:=vadd c.t.length c.T r.kd r.vw c.me r.vl,step:=2,view:=max c.view r.vw } from if_neg fun x=>x.2.1 h6)
  clear h hr hme h5 h6
  go_enter Tryz.func36,Tryz.ntmps36
  go_wp2_with ((first | (refine z2lz ?_;intro g3 w1 hg3 hx f3;have h3:=hide_ (show S g3 = 0 from Classical.byContradiction fun q0=>by have:=hC.out.bnd g3 q0;omega);replace hX:=hX.trans hx;clear hx) | fail) <;> (try refine z0z ?_))
  refine zmz ?_;intro wd hxd;have HC:=hC.out.ext (hX.trans hxd);have F0:=HC.obj;have F3:=f3.ext hxd
  refine z12z ?_
  intro wN hxN
  refine z24z ?_
  refine z4sz ?_;rintro e w4 ⟨X4,rfl,ht4,hu4,_⟩;refine ⟨_,rfl, ?_⟩
  refine z0z ?_
  refine z3rz ?_
  intro wM hxM
  refine zuz ?_
  rw [(addT_vadd _ _ _ _ _ _).1] at ht4
  obtain ⟨S1,hC10,hs10⟩:=(HC.ext hxN).vote hu4 ht4
  have hs1:=hide_ (((Stp.ofExt (lo:=1) (hi:=6) (hX.trans (hxd.trans hxN)) hC.out.bnd).trans hs10).trans (Stp.ofExt hxM hC10.bnd))
  have hC1:=hide_ (hC10.ext hxM)
  have hg3:=(F3.ext hxN).lt
  have h30:=hide_ (show S1 g3 = 0 from by rw [hs10.same g3 hg3];exact h3.out)
  have f3a:=hide_ ((((F3.ext hxN).mod hu4.mod (fun e=>by have e2:S g3 = 5:=e;rw [h3.out] at e2;omega))).ext hxM)
  clear hxd hxN hxM HC F0 F3 hu4 ht4 hs10 hC10 hg3 f3
  go_wp2_with ((first | refine z5dz ?_ | refine zhz ?_ | (refine z3gz ?_;intro w2 hm2 f2;have hC20:=hide_ (hC1.out.cell (d:={ c with T:=vadd c.t.length c.T r.kd r.vw c.me r.vl,step:=2 }) hm2 f2 ⟨rfl,rfl,rfl,rfl,rfl,rfl⟩ hC1.out.lft);have hs2:=hide_ (hs1.out.trans (hC1.out.stpCell hm2));have f3b:=hide_ (f3a.out.mod hm2 (fun q0=>by have h1:=hC1.out.lab.1;have h2:=h30.out;rw [q0,h1] at h2;omega));clear hm2 f2) | fail) <;> (try refine z0z ?_))
  obtain ⟨e,he0⟩:∃ e:CoD, { c with T:=vadd c.t.length c.T r.kd r.vw c.me r.vl,step:=2 } = e:=⟨_,rfl⟩
  have he:=hide_ he0
  rw [he0] at hC20
  have hC2:=hC20
  obtain ⟨z,hz0⟩:∃ z,max e.view r.vw = z:=⟨_,rfl⟩
  have hz:=hide_ hz0
  have hlw:=hide_ (show e.lw = c.lw from by rw [← he0])
  clear he0 hz0 hC20
  refine zmz ?_;intro wd hxd;have HC:=hC2.out.ext hxd;have F0:=HC.obj;have F3:=f3b.out.ext hxd
  refine zoz ?_
  intro wN hxN
  refine z7gz ?_
  refine z44z ?_;intro w9 hm9 f9
  refine z4tz ?_
  intro wM hxM
  refine zuz ?_
  have hCN:=HC.ext hxN
  have hC30:=hCN.cell (d:={ e with view:=z }) hm9 f9 ⟨rfl,rfl,rfl,rfl,rfl,rfl⟩ hCN.lft
  have hs3:=hide_ (hs2.out.trans (((Stp.ofExt (lo:=1) (hi:=6) (hxd.trans hxN) hC2.out.bnd).trans (hCN.stpCell hm9)).trans (Stp.ofExt hxM hC30.bnd)))
  have hC3:=hide_ (hC30.ext hxM)
  have f3c:=hide_ (((F3.ext hxN).mod hm9 (fun e=>by have h1:=hC2.out.lab.1;have h2:=h30.out;rw [e,h1] at h2;omega)).ext hxM)
  clear hxd hxN hxM HC F0 F3 hm9 f9 hCN hC30
  go_wp2
  refine zmz ?_;intro wd hxd;have F0:=hC3.out.obj.ext hxd;have F3:=f3c.out.ext hxd
  refine z6iz ?_
  refine LinL.step (s:=(.val (.bool true))) [(37,some 0)] rfl (by kernel_rfl) (op_runs rfl fun σ w' hx hg=>⟨(.bool true),by have h37 : σ.tmps.getD 37 undef = .int .i64 r.kd:=hg.1;unfold Runs execOp;simp [Act.eval,h37,go_sem,t5],rfl⟩) ?_
  refine LinL.st [(38,some 0)] rfl (opcp (.val (.bool true))) ?_
  refine LinL.st [(3,none),(39,some 0)] rfl (op_yes (reads:=[(3,none)]) 3 39 0 true rfl rfl rfl (opfo 3 3 3 g3)) ?_
  refine LinL.st [(40,some 0),(39,some 1)] rfl (op_yes (reads:=[(40,some 0)]) 3 39 1 true rfl rfl rfl (opld (.int .i64 r.vl) F3)) ?_
  refine LinL.step (s:=(.val (.bool false))) [(41,some 0),(39,some 2)] rfl (by kernel_rfl) (op_yes (reads:=[(41,some 0)]) 3 39 2 true rfl rfl rfl (op_runs rfl fun σ w' hx hg=>⟨(.bool false),by have h41 : σ.tmps.getD 41 undef = .int .i64 r.vl:=hg.1;unfold Runs execOp;simp [Act.eval,h41,go_sem,t6],rfl⟩)) ?_
  refine LinL.step (s:=(.val (.bool false))) [(39,some 3),(42,some 0)] rfl (by kernel_rfl) (op_runs rfl fun σ w' hx hg=>⟨_,runs_pick_t (ρ := σ.eval) (w:=w') (.tmp 39) (.tmp 42) (.const (.bool false)) rfl hg.1 hg.2.1,rfl⟩) ?_
  refine z17z ?_
  intro wN hxN
  refine z15z ?_
  have hxA:=hxd.trans hxN;clear hxd hxN F0 F3
  go_wp2
  go_end0
  exact z3yz
 have t6:(r.vl != -1) = true:=by simp [bne,h6]
 by_cases h7':c.lw < r.vw
 rotate_left
 ·have h7:=hide_ (decide_eq_false h7')
  have hfin:=hide_ (show c.rv r = { c with T:=vadd c.t.length c.T r.kd r.vw c.me r.vl,step:=2,view:=max c.view r.vw } from if_neg fun x=>h7' x.2.2)
  clear h hr hme h5 h6 h7'
  go_enter Tryz.func36,Tryz.ntmps36
  go_wp2_with ((first | (refine z2lz ?_;intro g3 w1 hg3 hx f3;have h3:=hide_ (show S g3 = 0 from Classical.byContradiction fun q0=>by have:=hC.out.bnd g3 q0;omega);replace hX:=hX.trans hx;clear hx) | fail) <;> (try refine z0z ?_))
  refine zmz ?_;intro wd hxd;have HC:=hC.out.ext (hX.trans hxd);have F0:=HC.obj;have F3:=f3.ext hxd
  refine z12z ?_
  intro wN hxN
  refine z24z ?_
  refine z4sz ?_;rintro e w4 ⟨X4,rfl,ht4,hu4,_⟩;refine ⟨_,rfl, ?_⟩
  refine z0z ?_
  refine z3rz ?_
  intro wM hxM
  refine zuz ?_
  rw [(addT_vadd _ _ _ _ _ _).1] at ht4
  obtain ⟨S1,hC10,hs10⟩:=(HC.ext hxN).vote hu4 ht4
  have hs1:=hide_ (((Stp.ofExt (lo:=1) (hi:=6) (hX.trans (hxd.trans hxN)) hC.out.bnd).trans hs10).trans (Stp.ofExt hxM hC10.bnd))
  have hC1:=hide_ (hC10.ext hxM)
  have hg3:=(F3.ext hxN).lt
  have h30:=hide_ (show S1 g3 = 0 from by rw [hs10.same g3 hg3];exact h3.out)
  have f3a:=hide_ ((((F3.ext hxN).mod hu4.mod (fun e=>by have e2:S g3 = 5:=e;rw [h3.out] at e2;omega))).ext hxM)
  clear hxd hxN hxM HC F0 F3 hu4 ht4 hs10 hC10 hg3 f3
  go_wp2_with ((first | refine z5dz ?_ | refine zhz ?_ | (refine z3gz ?_;intro w2 hm2 f2;have hC20:=hide_ (hC1.out.cell (d:={ c with T:=vadd c.t.length c.T r.kd r.vw c.me r.vl,step:=2 }) hm2 f2 ⟨rfl,rfl,rfl,rfl,rfl,rfl⟩ hC1.out.lft);have hs2:=hide_ (hs1.out.trans (hC1.out.stpCell hm2));have f3b:=hide_ (f3a.out.mod hm2 (fun q0=>by have h1:=hC1.out.lab.1;have h2:=h30.out;rw [q0,h1] at h2;omega));clear hm2 f2) | fail) <;> (try refine z0z ?_))
  obtain ⟨e,he0⟩:∃ e:CoD, { c with T:=vadd c.t.length c.T r.kd r.vw c.me r.vl,step:=2 } = e:=⟨_,rfl⟩
  have he:=hide_ he0
  rw [he0] at hC20
  have hC2:=hC20
  obtain ⟨z,hz0⟩:∃ z,max e.view r.vw = z:=⟨_,rfl⟩
  have hz:=hide_ hz0
  have hlw:=hide_ (show e.lw = c.lw from by rw [← he0])
  clear he0 hz0 hC20
  refine zmz ?_;intro wd hxd;have HC:=hC2.out.ext hxd;have F0:=HC.obj;have F3:=f3b.out.ext hxd
  refine zoz ?_
  intro wN hxN
  refine z7gz ?_
  refine z44z ?_;intro w9 hm9 f9
  refine z4tz ?_
  intro wM hxM
  refine zuz ?_
  have hCN:=HC.ext hxN
  have hC30:=hCN.cell (d:={ e with view:=z }) hm9 f9 ⟨rfl,rfl,rfl,rfl,rfl,rfl⟩ hCN.lft
  have hs3:=hide_ (hs2.out.trans (((Stp.ofExt (lo:=1) (hi:=6) (hxd.trans hxN) hC2.out.bnd).trans (hCN.stpCell hm9)).trans (Stp.ofExt hxM hC30.bnd)))
  have hC3:=hide_ (hC30.ext hxM)
  have f3c:=hide_ (((F3.ext hxN).mod hm9 (fun e=>by have h1:=hC2.out.lab.1;have h2:=h30.out;rw [e,h1] at h2;omega)).ext hxM)
  clear hxd hxN hxM HC F0 F3 hm9 f9 hCN hC30
  go_wp2
  have t7:decide (e.lw < r.vw) = false:=by rw [hlw.out];exact h7.out
  refine zmz ?_;intro wd hxd;have F0:=hC3.out.obj.ext hxd;have F3:=f3c.out.ext hxd
  refine ztz ?_
  refine LinL.step (s:=(.val (.bool false))) [(46,some 6),(52,some 0),(44,some 8)] rfl (by kernel_rfl) (op_yes (reads:=[(46,some 6),(52,some 0)]) 8 44 8 true rfl rfl rfl (op_runs rfl fun σ w' hx hg=>⟨(.bool false),by have h46 : σ.tmps.getD 46 undef = .int .i64 r.vw:=hg.1;have h52 : σ.tmps.getD 52 undef = .int .i64 e.lw:=hg.2.1;unfold Runs execOp;simp [Act.eval,h46,h52,go_sem,t7],rfl⟩)) ?_
  refine LinL.step (s:=(.val (.bool false))) [(44,some 9),(53,some 0)] rfl (by kernel_rfl) (op_runs rfl fun σ w' hx hg=>⟨_,runs_pick_t (ρ := σ.eval) (w:=w') (.tmp 44) (.tmp 53) (.const (.bool false)) rfl hg.1 hg.2.1,rfl⟩) ?_
  intro wN hxN
  refine z15z ?_
  have hxA:=hxd.trans hxN;clear hxd hxN F0 F3
  go_wp2
  go_end0
  exact z3yz
 have h7:=hide_ (decide_eq_true h7')
 have hfin:=hide_ (show c.rv r = { c with T:=vadd c.t.length c.T r.kd r.vw c.me r.vl,step:=2,view:=max c.view r.vw,lv:=r.vl,lw:=r.vw,vv:=r.vl,vw:=r.vw } from if_pos ⟨h5,h6,h7'⟩)
 clear h hr hme h5 h6 h7'
 go_enter Tryz.func36,Tryz.ntmps36
 go_wp2_with ((first | (refine z2lz ?_;intro g3 w1 hg3 hx f3;have h3:=hide_ (show S g3 = 0 from Classical.byContradiction fun q0=>by have:=hC.out.bnd g3 q0;omega);replace hX:=hX.trans hx;clear hx) | fail) <;> (try refine z0z ?_))
 refine zmz ?_;intro wd hxd;have HC:=hC.out.ext (hX.trans hxd);have F0:=HC.obj;have F3:=f3.ext hxd
 refine z12z ?_
 intro wN hxN
 refine z24z ?_
 refine z4sz ?_;rintro e w4 ⟨X4,rfl,ht4,hu4,_⟩;refine ⟨_,rfl, ?_⟩
 refine z0z ?_
 refine z3rz ?_
 intro wM hxM
 refine zuz ?_
 rw [(addT_vadd _ _ _ _ _ _).1] at ht4
 obtain ⟨S1,hC10,hs10⟩:=(HC.ext hxN).vote hu4 ht4
 have hs1:=hide_ (((Stp.ofExt (lo:=1) (hi:=6) (hX.trans (hxd.trans hxN)) hC.out.bnd).trans hs10).trans (Stp.ofExt hxM hC10.bnd))
 have hC1:=hide_ (hC10.ext hxM)
 have hg3:=(F3.ext hxN).lt
 have h30:=hide_ (show S1 g3 = 0 from by rw [hs10.same g3 hg3];exact h3.out)
 have f3a:=hide_ ((((F3.ext hxN).mod hu4.mod (fun e=>by have e2:S g3 = 5:=e;rw [h3.out] at e2;omega))).ext hxM)
 clear hxd hxN hxM HC F0 F3 hu4 ht4 hs10 hC10 hg3 f3
 go_wp2_with ((first | refine z5dz ?_ | refine zhz ?_ | (refine z3gz ?_;intro w2 hm2 f2;have hC20:=hide_ (hC1.out.cell (d:={ c with T:=vadd c.t.length c.T r.kd r.vw c.me r.vl,step:=2 }) hm2 f2 ⟨rfl,rfl,rfl,rfl,rfl,rfl⟩ hC1.out.lft);have hs2:=hide_ (hs1.out.trans (hC1.out.stpCell hm2));have f3b:=hide_ (f3a.out.mod hm2 (fun q0=>by have h1:=hC1.out.lab.1;have h2:=h30.out;rw [q0,h1] at h2;omega));clear hm2 f2) | fail) <;> (try refine z0z ?_))
 obtain ⟨e,he0⟩:∃ e:CoD, { c with T:=vadd c.t.length c.T r.kd r.vw c.me r.vl,step:=2 } = e:=⟨_,rfl⟩
 have he:=hide_ he0
 rw [he0] at hC20
 have hC2:=hC20
 obtain ⟨z,hz0⟩:∃ z,max e.view r.vw = z:=⟨_,rfl⟩
 have hz:=hide_ hz0
 have hlw:=hide_ (show e.lw = c.lw from by rw [← he0])
 clear he0 hz0 hC20
 refine zmz ?_;intro wd hxd;have HC:=hC2.out.ext hxd;have F0:=HC.obj;have F3:=f3b.out.ext hxd
 refine zoz ?_
 intro wN hxN
 refine z7gz ?_
 refine z44z ?_;intro w9 hm9 f9
 refine z4tz ?_
 intro wM hxM
 refine zuz ?_
 have hCN:=HC.ext hxN
 have hC30:=hCN.cell (d:={ e with view:=z }) hm9 f9 ⟨rfl,rfl,rfl,rfl,rfl,rfl⟩ hCN.lft
 have hs3:=hide_ (hs2.out.trans (((Stp.ofExt (lo:=1) (hi:=6) (hxd.trans hxN) hC2.out.bnd).trans (hCN.stpCell hm9)).trans (Stp.ofExt hxM hC30.bnd)))
 have hC3:=hide_ (hC30.ext hxM)
 have f3c:=hide_ (((F3.ext hxN).mod hm9 (fun e=>by have h1:=hC2.out.lab.1;have h2:=h30.out;rw [e,h1] at h2;omega)).ext hxM)
 clear hxd hxN hxM HC F0 F3 hm9 f9 hCN hC30
 go_wp2
 have t7:decide (e.lw < r.vw) = true:=by rw [hlw.out];exact h7.out
 refine zmz ?_;intro wd hxd;have F0:=hC3.out.obj.ext hxd;have F3:=f3c.out.ext hxd
 refine ztz ?_
 refine LinL.step (s:=(.val (.bool true))) [(46,some 6),(52,some 0),(44,some 8)] rfl (by kernel_rfl) (op_yes (reads:=[(46,some 6),(52,some 0)]) 8 44 8 true rfl rfl rfl (op_runs rfl fun σ w' hx hg=>⟨(.bool true),by have h46 : σ.tmps.getD 46 undef = .int .i64 r.vw:=hg.1;have h52 : σ.tmps.getD 52 undef = .int .i64 e.lw:=hg.2.1;unfold Runs execOp;simp [Act.eval,h46,h52,go_sem,t7],rfl⟩)) ?_
 refine LinL.step (s:=(.val (.bool true))) [(44,some 9),(53,some 0)] rfl (by kernel_rfl) (op_runs rfl fun σ w' hx hg=>⟨_,runs_pick_t (ρ := σ.eval) (w:=w') (.tmp 44) (.tmp 53) (.const (.bool false)) rfl hg.1 hg.2.1,rfl⟩) ?_
 intro wN hxN
 refine z15z ?_
 have hxA:=hxd.trans hxN;clear hxd hxN F0 F3
 go_wp2_with ((first | refine z5dz ?_ | ((with_reducible refine at_field ?_);(try refine w_yes _ _ _ rfl rfl rfl ?_);refine w_fieldB (t:=69) (i:=6) (off:=6) (by kernel_rfl) rfl _ _ rfl rfl rfl ?_) | ((with_reducible refine at_field ?_);(try refine w_yes _ _ _ rfl rfl rfl ?_);refine w_fieldB (t:=69) (i:=7) (off:=8) (by kernel_rfl) rfl _ _ rfl rfl rfl ?_) | (refine z3ez ?_;refine w_storeB Tryz.stPrep (pre:=[.int .i64 (e.me:Nat),sv, .int .i64 e.base, .int .i64 e.most,dv, .int .i64 e.tip, .int .i64 z, .int .i64 e.step, .int .i64 e.left, .pointer (some ⟨q,0,none⟩), .map (some gp), .map (some gs)]) (old:=[.int .i64 e.lv, .int .i64 e.lw]) (us:=[.int .i64 r.vl, .int .i64 r.vw]) (post:=[.int .i64 e.vv, .int .i64 e.vw]) _ _ rfl rfl rfl rfl rfl (hC3.out.obj.ext hxA) rfl rfl rfl (by intro u hu;simp only [List.mem_cons,List.not_mem_nil,or_false] at hu;rcases hu with rfl|rfl <;> rfl) ?_;intro w5 hm5 f5;have hC5:=hide_ ((hC3.out.ext hxA).cell (d:={ e with view:=z,lv:=r.vl,lw:=r.vw }) hm5 f5 ⟨rfl,rfl,rfl,rfl,rfl,rfl⟩ (hC3.out.ext hxA).lft);have hs5:=hide_ (hs3.out.trans ((Stp.ofExt (lo:=1) (hi:=6) hxA hC3.out.bnd).trans ((hC3.out.ext hxA).stpCell hm5)));have f3d:=hide_ ((f3c.out.ext hxA).mod hm5 (fun q0=>by have h1:=hC3.out.lab.1;have h2:=h30.out;rw [q0,h1] at h2;omega));clear hm5 f5) | (refine z3ez ?_;refine w_storeB Tryz.stPrep (pre:=[.int .i64 (e.me:Nat),sv, .int .i64 e.base, .int .i64 e.most,dv, .int .i64 e.tip, .int .i64 z, .int .i64 e.step, .int .i64 e.left, .pointer (some ⟨q,0,none⟩), .map (some gp), .map (some gs), .int .i64 r.vl, .int .i64 r.vw]) (old:=[.int .i64 e.vv, .int .i64 e.vw]) (us:=[.int .i64 r.vl, .int .i64 r.vw]) (post:=[]) _ _ rfl rfl rfl rfl rfl hC5.out.obj rfl rfl rfl (by intro u hu;simp only [List.mem_cons,List.not_mem_nil,or_false] at hu;rcases hu with rfl|rfl <;> rfl) ?_;intro w6 hm6 f6) | ((with_reducible refine at_load ?_);(try refine w_yes _ _ _ rfl rfl rfl ?_);refine w_loadB Tryz.stPrep _ [.int .i64 r.vl, .int .i64 r.vw] rfl rfl rfl hC5.out.obj rfl rfl ?_) | ((with_reducible refine at_field ?_);(try refine w_yes _ _ _ rfl rfl rfl ?_);refine w_field Tryz.stRcd _ _ _ rfl rfl rfl (by omega) ?_) | ((with_reducible refine at_load ?_);(try refine w_yes _ _ _ rfl rfl rfl ?_);refine w_fload _ rfl rfl rfl (f3c.out.ext hxA) rfl (agg_of (by kernel_rfl)) ?_) | ((with_reducible refine at_sbuild ?_);(try refine w_yes _ _ _ rfl rfl rfl ?_);refine w_sbuild Tryz.stPr2 [.int .i64 r.vl, .int .i64 r.vw] rfl rfl rfl (by intro y hy;simp at hy;rcases hy with rfl|rfl <;> exact ⟨by decide,rfl⟩) ?_) | fail) <;> (try refine z0z ?_))
 go_end0
 have hC6:=hC5.out.cell (d:={ e with view:=z,lv:=r.vl,lw:=r.vw,vv:=r.vl,vw:=r.vw }) hm6 f6 ⟨rfl,rfl,rfl,rfl,rfl,rfl⟩ hC5.out.lft
 exact Keep.intro ⟨rfl,S1,by rw [hfin.out];have hq:=hC6;rw [← hz.out, ← he.out] at hq;exact hq,hs5.out.trans (hC5.out.stpCell hm6)⟩
end Go.Proofs.YtdoeoncmhaihbaaGreat
namespace Go.Proofs.YtdoeoncmhaihbaaGreat
set_option maxRecDepth 100000
structure Votes (Most Some:(Nat→Prop)→Prop) (bad:Nat→Prop) where
 P:Nat→Nat→Int→Nat→Prop
 C:Nat→Nat→Int→Nat→Prop
 D:Nat→Int→Nat→Prop
 lock:Nat→Nat→Option (Nat × Int)
 meet:∀ A B:Nat→Prop,Most A→Most B→∃ i, ¬ bad i∧A i∧B i
 good:∀ A:Nat→Prop,Some A→∃ i, ¬ bad i∧A i
 justC:∀ i r v t, ¬ bad i→C i r v t→v ≠ -1→Most fun j=>bad j∨∃ t',t' < t∧P j r v t'
 locked:∀ i r v t t', ¬ bad i→C i r v t'→v ≠ -1→t' < t→∃ r0 v0,lock i t = some (r0,v0)∧r≤r0
 lockWas:∀ i t r v, ¬ bad i→lock i t = some (r,v)→v ≠ -1∧∃ t',t' < t∧C i r v t'
 justP:∀ i r w t r0 v0, ¬ bad i→P i r w t→w ≠ -1→lock i t = some (r0,v0)→v0 = w∨∃ q,r0≤q∧Most fun j=>bad j∨∃ t',t' < t∧P j q w t'
 ahead:∀ i r v t r' w t', ¬ bad i→C i r v t→P i r' w t'→r < r'→t < t'
 onceP:∀ i r v w t t', ¬ bad i→P i r v t→P i r w t'→v = w
 justD:∀ i v t, ¬ bad i→D i v t→(v ≠ -1∧∃ r,Most fun j=>bad j∨∃ t',t' < t∧C j r v t')∨Some fun j=>bad j∨∃ t',t' < t∧D j v t'
section
variable {Most Some:(Nat→Prop)→Prop} {bad:Nat→Prop} (V:Votes Most Some bad)
theorem Votes.safe {r:Nat} {v:Int} {T:Nat} (hv:v ≠ -1) (hq:Most fun j=>bad j∨∃ t',t' < T∧V.C j r v t') :
  ∀ (t r':Nat) (w:Int),r≤r'→w ≠ -1→w≠v→¬ Most fun j=>bad j∨∃ t',t' < t∧V.P j r' w t':=by
 intro t
 induction t using Nat.strongRecOn with
 | _ t ih =>
  intro r' w hr hw hne hm
  obtain ⟨i,hi,h1,h2⟩:=V.meet _ _ hq hm
  obtain ⟨t1,ht1,hc⟩:=h1.resolve_left hi
  obtain ⟨t2,ht2,hp⟩:=h2.resolve_left hi
  rcases Nat.lt_or_ge r r' with hlt | hge
  ·have h12:=V.ahead i r v t1 r' w t2 hi hc hp hlt
   obtain ⟨r0,v0,hl,hr0⟩:=V.locked i r v t2 t1 hi hc hv h12
   obtain ⟨hv0,t3,ht3,hc0⟩:=V.lockWas i t2 r0 v0 hi hl
   have hm0:=V.justC i r0 v0 t3 hi hc0 hv0
   have hvv:v0 = v:=by
    by_cases h:v0 = v
    ·exact h
    ·exact absurd hm0 (ih t3 (by omega) r0 v0 hr0 hv0 h)
   rcases V.justP i r' w t2 r0 v0 hi hp hw hl with h | ⟨q,hq0,hmq⟩
   ·exact hne (by rw [← h,hvv])
   ·exact ih t2 ht2 q w (by omega) hw hne hmq
  ·have:r' = r:=by omega
   subst this
   obtain ⟨j,hj,h3,h4⟩:=V.meet _ _ (V.justC i r' v t1 hi hc hv) hm
   obtain ⟨_,_,hp1⟩:=h3.resolve_left hj
   obtain ⟨_,_,hp2⟩:=h4.resolve_left hj
   exact hne (V.onceP j r' w v _ _ hj hp2 hp1)
theorem Votes.commits {r r':Nat} {v w:Int} {T T':Nat} (hv:v ≠ -1) (hw:w ≠ -1) (h:Most fun j=>bad j∨∃ t',t' < T∧V.C j r v t') (h':Most fun j=>bad j∨∃ t',t' < T'∧V.C j r' w t'):v = w:=by
 have key:∀ {r r':Nat} {v w:Int} {T T':Nat},v ≠ -1→w ≠ -1→(Most fun j=>bad j∨∃ t',t' < T∧V.C j r v t')→(Most fun j=>bad j∨∃ t',t' < T'∧V.C j r' w t')→r≤r'→v = w:=by
  intro r r' v w T T' hv hw h h' hr
  obtain ⟨i,hi,_,h2⟩:=V.meet _ _ h h'
  obtain ⟨t2,_,hc⟩:=h2.resolve_left hi
  by_cases e:w = v
  ·exact e.symm
  ·exact absurd (V.justC i r' w t2 hi hc hw) (V.safe hv h t2 r' w hr hw e)
 rcases Nat.le_total r r' with hr | hr
 ·exact key hv hw h h' hr
 ·exact (key hw hv h' h hr).symm
theorem Votes.decided:∀ (t:Nat) (i:Nat) (v:Int), ¬ bad i→V.D i v t→v ≠ -1∧∃ r T,Most fun j=>bad j∨∃ t',t' < T∧V.C j r v t':=by
 intro t
 induction t using Nat.strongRecOn with
 | _ t ih =>
  intro i v hi hd
  rcases V.justD i v t hi hd with ⟨hv,r,hm⟩ | hs
  ·exact ⟨hv,r,t,hm⟩
  ·obtain ⟨j,hj,h⟩:=V.good _ hs
   obtain ⟨t',ht',hd'⟩:=h.resolve_left hj
   exact ih t' ht' j v hj hd'
theorem Votes.agree {i i':Nat} {v w:Int} {t t':Nat} (hi:¬ bad i) (hi':¬ bad i') (h:V.D i v t) (h':V.D i' w t'):v = w:=by
 obtain ⟨h1,r,T,h2⟩:=V.decided t i v hi h
 obtain ⟨h3,r',T',h4⟩:=V.decided t' i' w hi' h'
 exact V.commits h1 h3 h2 h4
end
end Go.Proofs.YtdoeoncmhaihbaaGreat
namespace Go.Proofs.YtdoeoncmhaihbaaGreat
set_option maxRecDepth 100000
def MostB (t:List Int) (A:Nat→Prop):Prop := ∃ p:Nat→Bool,(∀ j,j < t.length→p j = true→A j)∧most t (picks p t.length) = true
def SomeB (t:List Int) (A:Nat→Prop):Prop := ∃ p:Nat→Bool,(∀ j,j < t.length→p j = true→A j)∧some3 t (picks p t.length) = true
theorem MostB.mono {t:List Int} {A B:Nat→Prop} (h:MostB t A) (hs:∀ j,A j→B j):MostB t B:=by
 obtain ⟨p,h1,h2⟩:=h
 exact ⟨p,fun j hj hp=>hs j (h1 j hj hp),h2⟩
theorem SomeB.mono {t:List Int} {A B:Nat→Prop} (h:SomeB t A) (hs:∀ j,A j→B j):SomeB t B:=by
 obtain ⟨p,h1,h2⟩:=h
 exact ⟨p,fun j hj hp=>hs j (h1 j hj hp),h2⟩
def FewB (t:List Int) (bad:Nat→Prop):Prop := ∀ p:Nat→Bool,(∀ j,j < t.length→p j = true→bad j)→some3 t (picks p t.length) = false
theorem FewB.some {t:List Int} {bad:Nat→Prop} (h:FewB t bad) {p:Nat→Bool} (hp:some3 t (picks p t.length) = true):∃ j,j < t.length∧¬ bad j∧p j = true:=by
 by_cases hc:∃ j,j < t.length∧¬ bad j∧p j = true
 ·exact hc
 ·exfalso
  have:=h p fun j hj hpj=>Classical.byContradiction fun hb=>hc ⟨j,hj,hb,hpj⟩
  rw [hp] at this;cases this
theorem FewB.meet {t:List Int} {bad:Nat→Prop} (ht:StOk t) (h:FewB t bad) {A B:Nat→Prop} (hA:MostB t A) (hB:MostB t B):∃ i, ¬ bad i∧A i∧B i:=by
 obtain ⟨p,h1,h2⟩:=hA
 obtain ⟨q,h3,h4⟩:=hB
 have hm:=(two_meet ht _ _ h2 h4).1
 obtain ⟨j,hj,hb,hpj⟩:=h.some hm
 simp only [inn_picks _ _ hj,Bool.and_eq_true] at hpj
 exact ⟨j,hb,h1 j hj hpj.1,h3 j hj hpj.2⟩
theorem FewB.good {t:List Int} {bad:Nat→Prop} (h:FewB t bad) {A:Nat→Prop} (hA:SomeB t A):∃ i, ¬ bad i∧A i:=by
 obtain ⟨p,h1,h2⟩:=hA
 obtain ⟨j,hj,hb,hpj⟩:=h.some h2
 exact ⟨j,hb,h1 j hj hpj⟩
theorem FewB.of {t who:List Int} (ht:StOk t) (h:few t who = true):FewB t fun j=>inn who j = true:=by
 intro p hp
 have h1:=ws_mono ht (p:=p) (q:=inn who) t.length fun i hi=>hp i hi
 unfold few at h
 unfold some3
 rw [sum_picks]
 simp only [decide_eq_true_eq] at h
 unfold sumS at h
 exact decide_eq_false (by have:=totS_bd ht;omega)
def voteA (k:Int) (i:Nat) (x w v:Int):AcV:=⟨-1,⟨k,i,x,w,v,0⟩⟩
def DecIn (L:List AcV) (j:Nat) (x v:Int):Prop := ∃ a∈L,a.m.kd = 6∧a.m.fm = (j:Int)∧a.m.ix = x∧a.m.vl = v
theorem DecIn.mono {K L:List AcV} {j:Nat} {x v:Int} (h:DecIn K j x v) (hs:∀ a∈K,a∈L):DecIn L j x v:=by
 obtain ⟨a,ha,hr⟩:=h
 exact ⟨a,hs a ha,hr⟩
def JP (bad:Nat→Prop) (t:List Int) (K:List AcV) (i:Nat) (x w:Int):Prop :=
 (∀ r0 v0,voteA 5 i x r0 v0∈K→v0 = -1)∨∃ r0 v0,voteA 5 i x r0 v0∈K∧v0 ≠ -1∧(∀ r1 v1,voteA 5 i x r1 v1∈K→v1 ≠ -1→r1≤r0)∧(v0 = w∨∃ q,r0≤q∧MostB t fun j=>bad j∨voteA 4 j x q w∈K)
structure JustA (bad:Nat→Prop) (t:List Int) (K:List AcV) (a:AcV):Prop where
 hon:∃ i:Nat,a.m.fm = (i:Int)∧i < t.length∧¬ bad i
 form:(a.m.kd = 4∨a.m.kd = 5)→a.to = -1∧a.m.pr = 0∧(0≤a.m.vw∧a.m.vw≤1000) ∧ -1≤a.m.vl
 once:(a.m.kd = 4∨a.m.kd = 5)→∀ i:Nat,a.m.fm = (i:Int)→∀ v,voteA a.m.kd i a.m.ix a.m.vw v∈K→v = a.m.vl
 jC:a.m.kd = 5→a.m.vl ≠ -1→MostB t fun j=>bad j∨voteA 4 j a.m.ix a.m.vw a.m.vl∈K
 jP:a.m.kd = 4→a ∉ K→a.m.vl ≠ -1→∀ i:Nat,a.m.fm = (i:Int)→JP bad t K i a.m.ix a.m.vl
 jD:a.m.kd = 6→(a.m.vl ≠ -1∧∃ r:Nat,MostB t fun j=>bad j∨voteA 5 j a.m.ix r a.m.vl∈K)∨SomeB t fun j=>bad j∨DecIn K j a.m.ix a.m.vl
 ahd:a.m.kd = 5→∀ i:Nat,a.m.fm = (i:Int)→∀ r w,voteA 4 i a.m.ix r w∈K→r≤a.m.vw
def LogInv (bad:Nat→Prop) (t:List Int) (L:List AcV):Prop := ∀ s a,L[s]? = some a→JustA bad t (L.take s) a
theorem LogInv.nil (bad:Nat→Prop) (t:List Int):LogInv bad t []:=fun s a h=>by simp at h
section
variable {bad:Nat→Prop} {t:List Int} {L:List AcV}
theorem LogInv.snoc (h:LogInv bad t L) {a:AcV} (ha:JustA bad t L a):LogInv bad t (L ++ [a]):=by
 intro s b hb
 by_cases hs:s < L.length
 ·rw [List.getElem?_append_left hs] at hb
  rw [List.take_append_of_le_length (Nat.le_of_lt hs)]
  exact h s b hb
 ·have hs2:s = L.length:=by
   have:=(List.getElem?_eq_some_iff.1 hb).1
   simp at this;omega
  subst hs2
  simp at hb
  subst hb
  simpa using ha
theorem mem_at {a:AcV} (h:a∈L):∃ s:Nat,L[s]? = some a:=by
 obtain ⟨s,hs,e⟩:=List.getElem_of_mem h
 exact ⟨s,by rw [List.getElem?_eq_getElem hs,e]⟩
theorem take_sub {s:Nat} {a:AcV} (h:a∈L.take s):a∈L:=List.mem_of_mem_take h
theorem mem_take {s:Nat} {a:AcV} (h:a∈L.take s):∃ s',s' < s∧L[s']? = some a:=by
 obtain ⟨j,hj,e⟩:=List.getElem_of_mem h
 simp only [List.length_take,Nat.lt_min] at hj
 refine ⟨j,hj.1, ?_⟩
 rw [List.getElem_take] at e
 rw [List.getElem?_eq_getElem hj.2,e]
theorem take_mem {s s':Nat} {a:AcV} (h:L[s']? = some a) (hs:s' < s):a∈L.take s:=by
 have h1:=(List.getElem?_eq_some_iff.1 h)
 obtain ⟨h1,h2⟩:=h1
 rw [← h2,List.mem_take_iff_getElem]
 exact ⟨s',by omega,rfl⟩
theorem LogInv.take (h:LogInv bad t L) (n:Nat):LogInv bad t (L.take n):=by
 intro s a ha
 obtain ⟨h1,h2⟩:=List.getElem?_eq_some_iff.1 ha
 simp only [List.length_take,Nat.lt_min] at h1
 rw [List.take_take,Nat.min_eq_left (by omega)]
 refine h s a ?_
 rw [List.getElem_take] at h2
 rw [List.getElem?_eq_getElem h1.2,h2]
theorem LogInv.once (h:LogInv bad t L) {k x w v v':Int} {i:Nat} (hk:k = 4∨k = 5) (h1:voteA k i x w v∈L) (h2:voteA k i x w v'∈L):v = v':=by
 obtain ⟨s,hs⟩:=mem_at h1
 obtain ⟨s',hs'⟩:=mem_at h2
 rcases Nat.lt_trichotomy s s' with hlt | heq | hgt
 ·exact (h s' _ hs').once hk i rfl v (take_mem hs hlt)
 ·subst heq
  rw [hs] at hs'
  injection hs' with e
  have:=congrArg (fun a=>a.m.vl) e
  exact this
 ·exact ((h s _ hs).once hk i rfl v' (take_mem hs' hgt)).symm
theorem LogInv.just (h:LogInv bad t L) {a:AcV} (ha:a∈L):∃ s,L[s]? = some a∧JustA bad t (L.take s) a:=by
 obtain ⟨s,hs⟩:=mem_at ha
 exact ⟨s,hs,h s a hs⟩
theorem LogInv.hon (h:LogInv bad t L) {a:AcV} (ha:a∈L):∃ i:Nat,a.m.fm = (i:Int)∧i < t.length∧¬ bad i:=by
 obtain ⟨s,_,j⟩:=h.just ha;exact j.hon
theorem LogInv.form (h:LogInv bad t L) {a:AcV} (ha:a∈L) (hk:a.m.kd = 4∨a.m.kd = 5):a.to = -1∧a.m.pr = 0∧(0≤a.m.vw∧a.m.vw≤1000) ∧ -1≤a.m.vl:=by
 obtain ⟨s,_,j⟩:=h.just ha;exact j.form hk
theorem LogInv.jC (h:LogInv bad t L) {i:Nat} {x r v:Int} (ha:voteA 5 i x r v∈L) (hv:v ≠ -1):MostB t fun j=>bad j∨voteA 4 j x r v∈L:=by
 obtain ⟨s,_,j⟩:=h.just ha
 exact (j.jC rfl hv).mono fun _=>Or.imp_right take_sub
theorem LogInv.jD (h:LogInv bad t L) {i:Nat} {x v:Int} (ha:DecIn L i x v):(v ≠ -1∧∃ r:Nat,MostB t fun j=>bad j∨voteA 5 j x r v∈L)∨SomeB t fun j=>bad j∨DecIn L j x v:=by
 obtain ⟨a,ha,h1,h2,h3,h4⟩:=ha
 obtain ⟨s,_,j⟩:=h.just ha
 subst h3 h4
 rcases j.jD h1 with ⟨hv,r,hm⟩ | hs
 ·exact .inl ⟨hv,r,hm.mono fun _=>Or.imp_right take_sub⟩
 ·exact .inr (hs.mono fun _=>Or.imp_right fun d=>d.mono fun _=>take_sub)
def LkAt (i:Nat) (x:Int) (K:List AcV) (p:Nat × Int):Prop:=voteA 5 i x p.1 p.2∈K∧p.2 ≠ -1∧∀ r1 v1,voteA 5 i x r1 v1∈K→v1 ≠ -1→r1≤(p.1:Int)
theorem voteA_inj {k k':Int} {i i':Nat} {x x' w w' v v':Int} (h:voteA k i x w v = voteA k' i' x' w' v'):k = k'∧i = i'∧x = x'∧w = w'∧v = v':=by
 unfold voteA at h
 injection h with _ h
 injection h with h1 h2 h3 h4 h5
 exact ⟨h1,by omega,h3,h4,h5⟩
theorem lk_max {i:Nat} {x:Int}:∀ K:List AcV,(∃ r v,voteA 5 i x r v∈K∧v ≠ -1)→∃ r v,voteA 5 i x r v∈K∧v ≠ -1∧∀ r1 v1,voteA 5 i x r1 v1∈K→v1 ≠ -1→r1≤r
 | [],⟨r,v,h,_⟩=>by simp at h
 | a :: K,hex=>by
  by_cases hK:∃ r v,voteA 5 i x r v∈K∧v ≠ -1
  ·obtain ⟨r,v,h1,h2,h3⟩:=lk_max K hK
   by_cases ha:∃ r' v',a = voteA 5 i x r' v'∧v' ≠ -1∧r < r'
   ·obtain ⟨r',v',rfl,hv',hr'⟩:=ha
    refine ⟨r',v',List.mem_cons_self ..,hv',fun r1 v1 hm hv1 => ?_⟩
    rcases List.mem_cons.1 hm with e | hm
    ·have:=voteA_inj e;omega
    ·have:=h3 r1 v1 hm hv1;omega
   ·refine ⟨r,v,List.mem_cons_of_mem _ h1,h2,fun r1 v1 hm hv1 => ?_⟩
    rcases List.mem_cons.1 hm with e | hm
    ·exact Int.not_lt.1 fun hlt=>ha ⟨r1,v1,e.symm,hv1,hlt⟩
    ·exact h3 r1 v1 hm hv1
  ·obtain ⟨r,v,h1,h2⟩:=hex
   rcases List.mem_cons.1 h1 with e | h1
   ·refine ⟨r,v,by rw [e];exact List.mem_cons_self ..,h2,fun r1 v1 hm hv1 => ?_⟩
    rcases List.mem_cons.1 hm with e' | hm
    ·have:=voteA_inj (e'.trans e.symm);omega
    ·exact absurd ⟨r1,v1,hm,hv1⟩ hK
   ·exact absurd ⟨r,v,h1,h2⟩ hK
open Classical in
noncomputable def lkOf (i:Nat) (x:Int) (K:List AcV):Option (Nat × Int):=if h:∃ p,LkAt i x K p then some h.choose else none
theorem lkOf_some {i:Nat} {x:Int} {K:List AcV} {p:Nat × Int} (h:lkOf i x K = some p):LkAt i x K p:=by
 unfold lkOf at h
 split at h
 ·rename_i hc;injection h with h;rw [← h];exact hc.choose_spec
 ·cases h
theorem lkOf_is {i:Nat} {x:Int} {K:List AcV} (h:∃ p,LkAt i x K p):∃ p,lkOf i x K = some p:=by
 unfold lkOf;rw [dif_pos h];exact ⟨_,rfl⟩
theorem first_at {a:AcV}:∀ K:List AcV,a∈K→∃ s:Nat,K[s]? = some a∧a ∉ K.take s
 | [],h=>by simp at h
 | b :: K,h=>by
  by_cases e:b = a
  ·exact ⟨0,by simp [e],by simp⟩
  ·rcases List.mem_cons.1 h with e' | h
   ·exact absurd e'.symm e
   ·obtain ⟨s,h1,h2⟩:=first_at K h
    exact ⟨s + 1,by simpa using h1,by simp only [List.take_succ_cons,List.mem_cons,not_or];exact ⟨fun q=>e q.symm,h2⟩⟩
theorem first_take {a:AcV} {n:Nat} (h:a∈L.take n):∃ s,s < n∧L[s]? = some a∧a ∉ L.take s:=by
 obtain ⟨s,h1,h2⟩:=first_at _ h
 have hs:=(List.getElem?_eq_some_iff.1 h1).1
 simp only [List.length_take,Nat.lt_min] at hs
 refine ⟨s,hs.1, ?_, ?_⟩
 ·rw [List.getElem?_take_of_lt hs.1] at h1;exact h1
 ·rw [List.take_take,Nat.min_eq_left (by omega)] at h2;exact h2
noncomputable def LogInv.votes (h:LogInv bad t L) (ht:StOk t) (hf:FewB t bad) (x:Int):Votes (MostB t) (SomeB t) bad where
 P i r w s:=L[s]? = some (voteA 4 i x r w)∧voteA 4 i x r w ∉ L.take s
 C i r v s:=L[s]? = some (voteA 5 i x r v)
 D i v s := ∃ a,L[s]? = some a∧a.m.kd = 6∧a.m.fm = (i:Int)∧a.m.ix = x∧a.m.vl = v
 lock i s:=lkOf i x (L.take s)
 meet A B hA hB:=hf.meet ht hA hB
 good A hA:=hf.good hA
 justC i r v s _ hc hv:=((h s _ hc).jC rfl hv).mono fun j=>Or.imp_right fun hm=>by
  obtain ⟨s',h1,h2,h3⟩:=first_take hm
  exact ⟨s',h1,h2,h3⟩
 locked i r v s s' hi hc hv hlt:=by
  have hm:voteA 5 i x r v∈L.take s:=take_mem hc hlt
  obtain ⟨r0,v0,h1,h2,h3⟩:=lk_max (L.take s) ⟨r,v,hm,hv⟩
  have hr0:0≤r0:=(h.form (take_sub h1) (.inr rfl)).2.2.1.1
  have hex:∃ p,LkAt i x (L.take s) p:=⟨(r0.toNat,v0),by unfold LkAt;simp only [Int.toNat_of_nonneg hr0];exact ⟨h1,h2,h3⟩⟩
  obtain ⟨p,hp⟩:=lkOf_is hex
  refine ⟨p.1,p.2,hp, ?_⟩
  have:=(lkOf_some hp).2.2 r v hm hv
  omega
 lockWas i s r v _ hl:=by
  obtain ⟨h1,h2,_⟩:=lkOf_some hl
  obtain ⟨s',h3,h4⟩:=mem_take h1
  exact ⟨h2,s',h3,h4⟩
 justP i r w s r0 v0 hi hp hw hl:=by
  obtain ⟨h1,h2,h3⟩:=lkOf_some hl
  rcases (h s _ hp.1).jP rfl hp.2 hw i rfl with hn | ⟨r1,v1,g1,g2,g3,g4⟩
  ·exact absurd (hn _ _ h1) h2
  ·have e:r1 = (r0:Int):=by
    have a:=h3 r1 v1 g1 g2
    have b:=g3 _ _ h1 h2
    simp only at a b
    omega
   subst e
   have ev:v1 = v0:=(h.take s).once (.inr rfl) g1 h1
   subst ev
   rcases g4 with g4 | ⟨q,hq,hm⟩
   ·exact .inl g4
   ·refine .inr ⟨q.toNat,by omega, ?_⟩
    refine hm.mono fun j=>Or.imp_right fun hmem => ?_
    obtain ⟨s',k1,k2,k3⟩:=first_take hmem
    have hq':((q.toNat:Nat):Int) = q:=Int.toNat_of_nonneg (by omega)
    rw [hq']
    exact ⟨s',k1,k2,k3⟩
 ahead i r v s r' w s' hi hc hp hlt:=by
  refine Nat.lt_of_not_le fun hge => ?_
  rcases Nat.lt_or_eq_of_le hge with hlt' | heq
  ·have:=(h s _ hc).ahd rfl i rfl r' w (take_mem hp.1 hlt')
   have e:(voteA 5 i x r v).m.vw = (r:Int):=rfl
   rw [e] at this
   omega
  ·subst heq
   have:=hp.1.symm.trans hc
   injection this with this
   have:=(voteA_inj this).1
   omega
 onceP i r v w s s' _ h1 h2:=h.once (.inl rfl) (List.mem_of_getElem? h1.1) (List.mem_of_getElem? h2.1)
 justD i v s _ hd:=by
  obtain ⟨a,h1,h2,h3,h4,h5⟩:=hd
  subst h4 h5
  rcases (h s a h1).jD h2 with ⟨hv,r,hm⟩ | hs
  ·exact .inl ⟨hv,r,hm.mono fun j=>Or.imp_right mem_take⟩
  ·refine .inr (hs.mono fun j=>Or.imp_right fun d => ?_)
   obtain ⟨b,hb,hr⟩:=d
   obtain ⟨s',k1,k2⟩:=mem_take hb
   exact ⟨s',k1,b,k2,hr⟩
theorem LogInv.agree (h:LogInv bad t L) (ht:StOk t) (hf:FewB t bad) {i j:Nat} {x v w:Int} (hi:¬ bad i) (hj:¬ bad j) (h1:DecIn L i x v) (h2:DecIn L j x w):v = w:=by
 obtain ⟨a,ha,ra⟩:=h1
 obtain ⟨b,hb,rb⟩:=h2
 obtain ⟨s,hs⟩:=mem_at ha
 obtain ⟨s',hs'⟩:=mem_at hb
 exact (h.votes ht hf x).agree hi hj (t:=s) (t':=s') ⟨a,hs,ra⟩ ⟨b,hs',rb⟩
end
end Go.Proofs.YtdoeoncmhaihbaaGreat
