/- The chapter's example. · What a parameter of type []int reads as. · The parameters of the statements on cores: who a core is, what happens to it. -/
import Derived.Test.YtdoeoncmhaihbaaGreatPk18
import Derived.Test.YtdoeoncmhaihbaaGreatPk20
import Derived.Test.YtdoeoncmhaihbaaGreatPk03
import Derived.Test.YtdoeoncmhaihbaaGreatPk05
import Derived.Test.YtdoeoncmhaihbaaGreatPk08
import Derived.Test.YtdoeoncmhaihbaaGreatSTK
namespace Go.Proofs.YtdoeoncmhaihbaaGreat
set_option maxHeartbeats 3200000
set_option maxRecDepth 100000
open Go.RowKit
theorem ksn {S:Nat→Nat} {w w':World} {p:Nat} {c:CoD} {v:Value} {l:List Int} (o:OwnI w.heap.size w' v l) (h:Cor S w p c):∀ k,v.ownBlock = some k→k < w'.heap.size∧S k = 0:=fun k hk=>by
 obtain ⟨h1,h2⟩:=(show w'.ownsRow w.heap.size 3 1 v (i64s l).length (i64s l) from o).lt k hk
 obtain ⟨sv,dv,q,gp,gs,h⟩:=h
 exact ⟨h2,Classical.byContradiction fun e=>by have:=h.bnd k e;omega⟩
theorem Cor.ext {S:Nat→Nat} {w w':World} {p:Nat} {c:CoD} (h:Cor S w p c) (he:Ext w w'):Cor S w' p c:=by
 obtain ⟨sv,dv,q,gp,gs,h⟩:=h
 exact ⟨sv,dv,q,gp,gs,h.ext he⟩
theorem nv_A:NV 65536:=nv_known.1
theorem spk_new {me:Nat} {t:List Int} {base most:Int} (ht:StOk t) (hm:me < t.length):Spk NV 0 (CoD.new me t base most):=⟨Aux.new ht hm NV.zero,Int.le_refl _,fun a ha=>(by cases ha)⟩
theorem commOf_no {g:Tab} {t:List Int} (h:∀ w i,g 5 w i = none):g.commOf t = none:=by
 unfold Tab.commOf
 rw [List.findSome?_eq_none_iff]
 intro j _
 have hm:g.mostOf t 5 j = none:=by
  unfold Tab.mostOf
  rw [List.findSome?_eq_none_iff]
  intro i _
  simp only [h]
 unfold Tab.commAt
 rw [hm]
theorem some_no:∀ L:List Int,L = []→some3 [1] L = true→False:=by
 rintro _ rfl
 decide
theorem al_ahead {g:Tab} (h:∀ k (w:Nat) i,0 < w→g k w i = none):g.aheadOf [1] 0 = 0:=Tab.aheadOf_self fun j _ hj ha=>by
 have hf:g.from' (j:Nat) 0 = false:=by
  unfold Tab.from'
  refine decide_eq_false ?_
  rintro ⟨k,h1,h2,h3⟩
  rcases h3 with h3 | h3
  ·exact h3 (h 4 k 0 (by omega))
  ·exact h3 (h 5 k 0 (by omega))
 exact some_no _ (show picks (g.from' (j:Nat)) (0 + 1) = [] from by rw [picks_succ];simp [hf,picks]) ha
def AlA:AcV:=⟨-1,⟨3,0,0,0,65536, -1⟩⟩
def AlB:AcV:=⟨-1,⟨4,0,0,0,65536,0⟩⟩
def AlC:AcV:=⟨-1,⟨5,0,0,0,65536,0⟩⟩
def Al0:CoD:=⟨0, [1],2,8, [],0,1,pat 0 2 8,65536,T0,fun u=>if u = 0 then some (65536, -1) else none,fun _=>none,0, -1,0, -1, [AlA]⟩
def Al1:CoD:={ Al0 with step:=2,T:=vput T0 4 0 0 65536,out:=[AlA,AlB] }
def Al2:CoD:={ Al1 with step:=3,T:=vput Al1.T 5 0 0 65536,lv:=65536,lw:=0,vv:=65536,vw:=0,out:=[AlA,AlB,AlC] }
def Alive:CoD:=(CoD.new 0 [1] 2 8).tick [65536] 65536
theorem al_tock:CoD.tock { CoD.new 0 [1] 2 8 with tip:=65536 } = Al0:=by kernel_rfl
theorem al_s0:Al0.step1 [65536] = some Al1:=by
 unfold CoD.step1
 rw [if_neg (by decide),show Al0.agreed = none from by
  unfold CoD.agreed
  rw [show Al0.T.commOf Al0.t = none from commOf_no fun _ _=>rfl]
  kernel_rfl]
 show (if Al0.step = 0 then none else _) = _
 rw [if_neg (by decide),if_neg (show ¬ Al0.view < Al0.T.aheadOf Al0.t Al0.view from by
  rw [show Al0.T.aheadOf Al0.t Al0.view = 0 from al_ahead fun _ _ _ _=>rfl];decide),if_pos (by decide)]
 kernel_rfl
theorem al_s1:Al1.step1 [65536] = some Al2:=by
 unfold CoD.step1
 rw [if_neg (by decide),show Al1.agreed = none from by
  unfold CoD.agreed
  rw [show Al1.T.commOf Al1.t = none from commOf_no fun w i=>by show vput T0 4 0 0 65536 5 w i = none;unfold vput;rw [if_neg fun q=>by have:=q.1;omega];rfl]
  kernel_rfl]
 show (if Al1.step = 0 then none else _) = _
 rw [if_neg (by decide),if_neg (show ¬ Al1.view < Al1.T.aheadOf Al1.t Al1.view from by
  rw [show Al1.T.aheadOf Al1.t Al1.view = 0 from al_ahead fun k w i hw=>by show vput T0 4 0 0 65536 k w i = none;unfold vput;rw [if_neg fun q=>by have:=q.2.1;omega];rfl];decide),if_neg (by decide)]
 kernel_rfl
theorem al_s2:Al2.step1 [65536] = some (Al2.conclude 65536):=by
 unfold CoD.step1
 rw [if_neg (by decide),show Al2.agreed = some 65536 from by
  unfold CoD.agreed
  rw [show Al2.T.commOf Al2.t = some 65536 from Tab.commOf_first (j:=0) (by omega) (by kernel_rfl) fun i hi=>by omega]
  rfl]
theorem al_s3:(Al2.conclude 65536).step1 [65536] = none:=by
 unfold CoD.step1
 rw [if_neg (by decide),show (Al2.conclude 65536).agreed = none from by
  unfold CoD.agreed
  rw [show (Al2.conclude 65536).T.commOf (Al2.conclude 65536).t = none from commOf_no fun _ _=>rfl]
  kernel_rfl]
 show (if (Al2.conclude 65536).step = 0 then none else _) = _
 rw [if_pos (by decide)]
theorem alive_eq:Alive = Al2.conclude 65536:=by
 have s0:Spk NV 0 Al0:=by
  have:=spk_tock (spk_tip (spk_new (me:=0) (t:=[1]) (base:=2) (most:=8) (by decide) (by decide)) nv_A) (by decide)
  rwa [al_tock] at this
 have s1:=spk_step1 s0 NV.zero al_s0
 have s2:=spk_step1 s1 NV.zero al_s1
 have e:Alive = (CoD.settle (CoD.tock { CoD.new 0 [1] 2 8 with tip:=65536 }) [65536]).resend:=by
  unfold Alive CoD.tick
  rw [if_neg (by decide)]
 rw [e,al_tock,settle_some s0 NV.zero al_s0,settle_some s1 NV.zero al_s1,settle_some s2 NV.zero al_s2,settle_none al_s3]
 unfold CoD.resend
 rw [if_pos (by decide)]
theorem alive_out:Alive.out = [⟨-1,⟨3,0,0,0,65536, -1⟩⟩,⟨-1,⟨4,0,0,0,65536,0⟩⟩,⟨-1,⟨5,0,0,0,65536,0⟩⟩,⟨-1,⟨6,0,0,0,65536,0⟩⟩]:=by rw [alive_eq];kernel_rfl
theorem alive_dec:Alive.dec = [65536]:=by rw [alive_eq];kernel_rfl
theorem alive_step:Alive.step = 0:=by rw [alive_eq];kernel_rfl
theorem new_alive {w:World} {v:Value} (h:Ints w v [1]):Calls Tryz.prog 7 #[.int .i64 0,v, .int .i64 2, .int .i64 8] w fun e w' => ∃ p S',e = .returned (.pointer (some ⟨p,0,none⟩))∧Cor S' w' p (CoD.new 0 [1] 2 8)∧(∀ k,S' k≤6)∧(∀ k,S' k≠0→w.heap.size≤k)∧Ext w w' :=
 New_any (me:=0) h (by decide) (by decide)
theorem tick_alive {S:Nat→Nat} {w:World} {p:Nat} {kv:Value} (hC:Cor S w p (CoD.new 0 [1] 2 8)) (h6:∀ k,S k≤6) (hk:Ints w kv [65536]) (hks:∀ k,kv.ownBlock = some k→k < w.heap.size∧S k = 0) :
  Calls Tryz.prog 11 #[.pointer (some ⟨p,0,none⟩),kv, .int .i64 65536] w fun e w' => ∃ S' ov,e = .returned ov∧Cor S' w' p Alive∧Recs 14 AcR w' ov Alive.out∧Stp 1 6 S S' w w':=by
 obtain ⟨sv,dv,q,gp,gs,hC⟩:=hC
 refine (tick_core hC h6 (spk_new (by decide) (by decide)) rfl nv_A hk hks).mono ?_
 rintro e w' ⟨S',ov,rfl,h1,_,h3,_,h5⟩
 exact ⟨S',ov,rfl,h1,h3.acts,h5⟩
theorem alive_any {w:World}:Calls Tryz.prog 4 #[] w fun e w'=>e = .returned (.bool true)∧Ext w w':=by
 refine z2rz ?_
 obtain ⟨c,hc0⟩:∃ c,Alive = c:=⟨_,rfl⟩
 have hc:=hide_ hc0
 obtain ⟨l,hl0⟩:∃ l,c.out = l:=⟨_,rfl⟩
 have hl:=hide_ hl0
 have hlen:l.length = 4:=by rw [← hl0, ← hc0,alive_out];rfl
 have h0:=hide_ (show l[0]? = some ⟨-1,⟨3,0,0,0,65536, -1⟩⟩ by rw [← hl0, ← hc0,alive_out];rfl)
 have h1:=hide_ (show l[1]? = some ⟨-1,⟨4,0,0,0,65536,0⟩⟩ by rw [← hl0, ← hc0,alive_out];rfl)
 have h2:=hide_ (show l[2]? = some ⟨-1,⟨5,0,0,0,65536,0⟩⟩ by rw [← hl0, ← hc0,alive_out];rfl)
 have h3:=hide_ (show l[3]? = some ⟨-1,⟨6,0,0,0,65536,0⟩⟩ by rw [← hl0, ← hc0,alive_out];rfl)
 have hll:=hide_ hlen
 have hd:=hide_ (show c.dec = [65536] by rw [← hc0,alive_dec])
 have hs:=hide_ (show c.step = 0 by rw [← hc0,alive_step])
 clear hc0 hl0 hlen
 go_enter Tryz.func4,Tryz.ntmps4
 go_wp2_with ((first | go_big_skip | ((with_reducible refine at_lit ?_);refine w_new Tryz.elI (i64s [1]) rfl rfl rfl (i64s_cells _) rfl (by omega) ?_;intro v3 w3 hx3 o3;replace o3:OwnI _ w3 v3 [1]:=o3) | ((with_reducible refine at_lit ?_);refine w_new Tryz.elI (i64s [65536]) rfl rfl rfl (i64s_cells _) rfl (by omega) ?_;intro v8 w8 hx8 o8;replace o8:OwnI _ w8 v8 [65536]:=o8;have hb8:=hide_ (Nat.le_refl w8.heap.size)) | (go_at_call 7;refine (new_alive o3.ints).mono ?_;rintro e w4 ⟨p,S4,rfl,hC4,h64,hlo4,hx4⟩;have hX:=hide_ (hx3.trans hx4);replace hC4:=hide_ hC4;replace h64:=hide_ h64;have hlo:=hide_ (fun k hk=>Nat.le_trans hx3.size (hlo4 k hk));clear hlo4 hx3 hx4 o3) | (go_at_call 11;refine (tick_alive (hC4.out.ext hx8) h64.out o8.ints (ksn o8 hC4.out)).mono ?_;rintro e w5 ⟨S5,ov,rfl,hC5,hr0,hs5⟩;have hX5:=hide_ (hs5.mod.after (hX.out.trans hx8) fun k hk=>hlo.out k (by have:=hk.1;omega));rw [hc.out] at hC5 hr0;rw [hl.out] at hr0;have hr:=hide_ hr0;obtain ⟨sv,dv,q,gp,gs,hC⟩:=hC5;replace hC:=hide_ hC;have hx9:=Ext.refl w5;clear hC4 h64 hlo hX o8 hx8 hs5 hr0) | (go_at_call 14;refine (Decisions_core (hC.out.ext hx9) (by rw [hd.out];decide)).mono ?_;rintro e w6 ⟨u6,rfl,o6,hx⟩;rw [hd.out] at o6;replace hx9:=hx9.trans hx;clear hx) | ((with_reducible refine at_lit ?_);(try refine w_yes _ _ _ rfl rfl rfl ?_);refine w_new Tryz.elI (i64s [65536]) rfl rfl rfl (i64s_cells _) rfl (by omega) ?_;intro v7 w7 hx7 o7;replace o7:OwnI _ w7 v7 [65536]:=o7;replace o6:=o6.ext hx7;replace hx9:=hx9.trans hx7;clear hx7) | (go_at_call 15;refine (SameInts_any _ _ [65536] _ o6.ints o7.ints).mono ?_;rintro e wA ⟨rfl,hx⟩;replace hx9:=hx9.trans hx;clear hx) | (go_at_call 16;refine (Index_core (hC.out.ext hx9)).mono ?_;rintro e wB ⟨rfl,hx⟩;rw [hd.out];replace hx9:=hx9.trans hx;clear hx) | (go_at_call 17;refine (Step_core (hC.out.ext hx9)).mono ?_;rintro e wC ⟨rfl,hx⟩;rw [hs.out];replace hx9:=hx9.trans hx;clear hx) | ((with_reducible refine at_bi ?_);(try refine w_yes _ _ _ rfl rfl rfl ?_);refine w_rlen Tryz.elAct _ rfl rfl rfl hr.out ?_;rw [hll.out]) | ((with_reducible refine at_idx ?_);(try refine w_yes _ _ _ rfl rfl rfl ?_);refine w_acidx Tryz.elAct _ _ 0 rfl rfl rfl rfl hr.out hx9 h0.out ?_;intro pa0 hrow0;replace hrow0:=hide_ hrow0) | ((with_reducible refine at_idx ?_);(try refine w_yes _ _ _ rfl rfl rfl ?_);refine w_acidx Tryz.elAct _ _ 1 rfl rfl rfl rfl hr.out hx9 h1.out ?_;intro pa1 hrow1;replace hrow1:=hide_ hrow1) | ((with_reducible refine at_idx ?_);(try refine w_yes _ _ _ rfl rfl rfl ?_);refine w_acidx Tryz.elAct _ _ 2 rfl rfl rfl rfl hr.out hx9 h2.out ?_;intro pa2 hrow2;replace hrow2:=hide_ hrow2) | ((with_reducible refine at_idx ?_);(try refine w_yes _ _ _ rfl rfl rfl ?_);refine w_acidx Tryz.elAct _ _ 3 rfl rfl rfl rfl hr.out hx9 h3.out ?_;intro pa3 hrow3;replace hrow3:=hide_ hrow3) | ((with_reducible refine at_field ?_);(try refine w_yes _ _ _ rfl rfl rfl ?_);refine w_pfieldB (t:=53) (i:=1) (off:=1) (by kernel_rfl) _ rfl rfl rfl ?_) | ((with_reducible refine at_field ?_);(try refine w_yes _ _ _ rfl rfl rfl ?_);refine w_pfieldB (t:=42) (i:=0) (off:=0) (by kernel_rfl) _ rfl rfl rfl ?_) | ((with_reducible refine at_load ?_);(try refine w_yes _ _ _ rfl rfl rfl ?_);refine w_rowload2 (i:=1) (j:=0) (u := .int .i64 3) _ rfl rfl rfl hrow0.out rfl (agg_of (by kernel_rfl)) ?_) | ((with_reducible refine at_load ?_);(try refine w_yes _ _ _ rfl rfl rfl ?_);refine w_rowload2 (i:=1) (j:=0) (u := .int .i64 4) _ rfl rfl rfl hrow1.out rfl (agg_of (by kernel_rfl)) ?_) | ((with_reducible refine at_load ?_);(try refine w_yes _ _ _ rfl rfl rfl ?_);refine w_rowload2 (i:=1) (j:=0) (u := .int .i64 5) _ rfl rfl rfl hrow2.out rfl (agg_of (by kernel_rfl)) ?_) | ((with_reducible refine at_load ?_);(try refine w_yes _ _ _ rfl rfl rfl ?_);refine w_rowload2 (i:=1) (j:=0) (u := .int .i64 6) _ rfl rfl rfl hrow3.out rfl (agg_of (by kernel_rfl)) ?_) | fail) <;> (try refine z0z ?_))
 go_ret
 exact Keep.intro ⟨rfl,hX5.out.trans hx9⟩
end Go.Proofs.YtdoeoncmhaihbaaGreat
namespace Go.Proofs.YtdoeoncmhaihbaaGreat
set_option maxRecDepth 100000
open Go.RowKit Go.ChangeShapes Go.WideShapes Go.ChangeAt
theorem arg_ints {H:Type} {enc:TypeId × Value→H} {W:World} {base:Nat} {v:Value} {d:DataW H} {ps:List MemPlace} {ts:List TypeId} {ds:List (DataW H)} (hsz:(DataW.weightsEach Tryz.prog ts ds).all (· ≤ reachBytes) = true) {j:Nat} (ht:ts[j]? = some 22) (hd:ds[j]? = some d)
  (hval:Value.okWide Tryz.prog W .any base 22 v) (h:DataW.Trod enc Tryz.prog W 0 (fun _=>true) true 22 v d ps):∃ l:List Int,Ints W v l∧(∀ x∈l, -9223372036854775808≤x∧x≤9223372036854775807)∧l.length * 8≤140737488351232:=by
 obtain ⟨a0,len,cap,rfl⟩:=okWide_slice Tryz.underlying22 hval
 obtain ⟨fuel,hf⟩:=h
 rcases open_ints Tryz.underlying22 Tryz.underlying3 (by kernel_rfl) hf with ⟨h1,_⟩ | ⟨a,len',cap',zs,h1,_,hlc,hcm,hzl,hx,hc,hw⟩
 ·simp only [Value.cells] at h1
  injection h1 with h1;injection h1 with e1 e2 e3
  subst e1 e2 e3
  exact ⟨[],Ints.nil W,by simp,by simp⟩
 ·simp only [Value.cells] at h1
  injection h1 with h1;injection h1 with e1 e2 e3
  subst e1 e2 e3
  simp only [if_true] at hzl
  have hwn:∀ n∈zs, -9223372036854775808≤n∧n≤9223372036854775807:=fun n hn=>by
   have:=hw n hn
   simp [Lit.wf,IntKind.min,IntKind.max,IntKind.signed,IntKind.bits] at this
   omega
  have hd2:d = .slice (lits .i64 (zs.take len)) (lits .i64 (zs.drop len)):=by
   have:=congrArg Prod.fst hx;simpa using this
  have hz2:=sized_slice hsz ht (by rw [hd,hd2]) Tryz.underlying22
  have hb5:Tryz.prog.bytesOf 3 = 8:=by kernel_rfl
  have hreach:reachBytes = 140737488351232:=rfl
  rw [hb5,hreach] at hz2
  simp only [lits,List.length_map,List.length_take,List.length_drop] at hz2
  refine ⟨zs.take len, ?_,fun x hx'=>hwn x (List.mem_of_mem_take hx'),by simp;omega⟩
  refine ⟨some a,cap,by simp [i64s];omega,by simp [i64s];omega,hcm,fun k u hk=>⟨a,rfl, ?_⟩⟩
  rw [i64s,List.getElem?_map,List.getElem?_take] at hk
  split at hk
  ·rw [hc k (by omega)]
   have hkz:k < zs.length:=by omega
   rw [List.getElem?_eq_getElem hkz] at hk
   simp at hk
   subst hk
   simp [List.getD,List.getElem?_eq_getElem hkz]
  ·simp at hk
section
variable {H:Type} {enc:TypeId × Value→H} {W:World}
theorem rd_ints {fuel:Nat} {v:Value} {d:DataW H} {pl:List MemPlace} (hf:DataW.trod enc Tryz.prog W 0 (fun _=>true) true fuel 22 [v] = some (d,pl)) (hw:Fits Tryz.prog 22 d):∃ l:List Int,Ints W v l∧(∀ x∈l, -9223372036854775808≤x∧x≤9223372036854775807)∧l.length * 8≤140737488351232:=by
 rcases open_ints Tryz.underlying22 Tryz.underlying3 (by kernel_rfl) hf with ⟨h1,_⟩ | ⟨a,len,cap,zs,h1,_,hlc,hcm,hzl,hx,hc,hwf⟩
 ·injection h1 with h1
  subst h1
  exact ⟨[],Ints.nil W,by simp,by simp⟩
 ·injection h1 with h1
  subst h1
  simp only [if_true] at hzl
  have hwn:∀ n∈zs, -9223372036854775808≤n∧n≤9223372036854775807:=fun n hn=>by
   have:=hwf n hn
   simp [Lit.wf,IntKind.min,IntKind.max,IntKind.signed,IntKind.bits] at this
   omega
  have hd2:d = .slice (lits .i64 (zs.take len)) (lits .i64 (zs.drop len)):=congrArg Prod.fst hx
  subst hd2
  have hz2:=hw.slice Tryz.underlying22
  have hb5:Tryz.prog.bytesOf 3 = 8:=by kernel_rfl
  have hreach:reachBytes = 140737488351232:=rfl
  rw [hb5,hreach] at hz2
  simp only [lits,List.length_map,List.length_take,List.length_drop] at hz2
  refine ⟨zs.take len, ?_,fun x hx'=>hwn x (List.mem_of_mem_take hx'),by simp;omega⟩
  refine ⟨some a,cap,by simp [i64s];omega,by simp [i64s];omega,hcm,fun k u hk=>⟨a,rfl, ?_⟩⟩
  rw [i64s,List.getElem?_map,List.getElem?_take] at hk
  split at hk
  ·rw [hc k (by omega)]
   have hkz:k < zs.length:=by omega
   rw [List.getElem?_eq_getElem hkz] at hk
   simp at hk
   subst hk
   simp [List.getD,List.getElem?_eq_getElem hkz]
  ·simp at hk
structure CfD where
 me:Int
 base:Int
 most:Int
 st:List Int
def CfD.row (g:CfD) (u:Value):List Value:=[.int .i64 g.me, .int .i64 g.base, .int .i64 g.most,u]
def CfR (w:World) (row:List Value) (g:CfD):Prop:=(∃ u,row = g.row u∧Ints w u g.st)∧I64s g.st∧g.st.length * 8≤140737488351232
theorem Tryz.stCf:St Tryz.prog 24 4 [.int .i64 0, .int .i64 0, .int .i64 0, .slice none 0 0]:=St.of (by kernel_rfl) (by kernel_rfl) rfl
theorem rd_Cf {fuel:Nat} {cs:List Value} {y:DataW H × List MemPlace} (hlen:cs.length = 4) (hy:DataW.trod enc Tryz.prog W 0 (fun _=>true) true fuel 24 cs = some y) (hw:Fits Tryz.prog 24 y.1):∃ d,CfR W cs d:=by
 obtain ⟨xs,m,_,rfl,_,hxl,hf⟩:=DataW.trod_struct Tryz.underlying24 hy
 match xs,hxl,cs,hlen with
 | [y0,y1,y2,y3],_, [c0,c1,c2,c3],_ =>
  have k0:DataW.trod enc Tryz.prog W 0 (fun _=>true) true m 3 [c0] = some y0:=hf 0 _ rfl
  have k1:DataW.trod enc Tryz.prog W 0 (fun _=>true) true m 3 [c1] = some y1:=hf 1 _ rfl
  have k2:DataW.trod enc Tryz.prog W 0 (fun _=>true) true m 3 [c2] = some y2:=hf 2 _ rfl
  have k3:DataW.trod enc Tryz.prog W 0 (fun _=>true) true m 22 [c3] = some y3:=hf 3 _ rfl
  simp only [List.map_cons,List.map_nil] at hw
  obtain ⟨a0,e0,_,b0⟩:=DataW.trod_int Tryz.underlying3 k0
  obtain ⟨a1,e1,_,b1⟩:=DataW.trod_int Tryz.underlying3 k1
  obtain ⟨a2,e2,_,b2⟩:=DataW.trod_int Tryz.underlying3 k2
  injection e0 with e0 _
  injection e1 with e1 _
  injection e2 with e2 _
  subst e0 e1 e2
  obtain ⟨l3,g3,s3,t3⟩:=rd_ints (d:=y3.1) (pl:=y3.2) k3 (hw.part Tryz.underlying24 (j:=3) rfl rfl)
  exact ⟨⟨a0,a1,a2,l3⟩,⟨c3,rfl,g3⟩,s3,t3⟩
theorem arg_Cf {base:Nat} {v:Value} {d:DataW H} {ps:List MemPlace} {ts:List TypeId} {ds:List (DataW H)} (hsz:(DataW.weightsEach Tryz.prog ts ds).all (· ≤ reachBytes) = true) {j:Nat} (ht:ts[j]? = some 24) (hd:ds[j]? = some d)
  (hval:Value.okWide Tryz.prog W .any base 24 v) (h:DataW.Trod enc Tryz.prog W 0 (fun _=>true) true 24 v d ps):∃ (row:List Value) (x:CfD),v = .agg row.toArray∧row.length = 4∧CfR W row x:=by
 have hu:=Tryz.underlying24
 simp only [Value.okWide,hu] at hval
 obtain ⟨cs,rfl,hcs,_⟩:=hval
 have hc:Tryz.prog.cellsOf 24 = 4:=by kernel_rfl
 rw [hc] at hcs
 obtain ⟨fuel,hf⟩:=h
 obtain ⟨x,hx⟩:=rd_Cf (cs:=cs.toList) (by simpa using hcs) hf (fits_arg hsz ht hd)
 exact ⟨cs.toList,x,by simp,by simpa using hcs,hx⟩
structure AcE where
 k:Int
 n:Int
 m:MsgD
instance:Inhabited AcE:=⟨⟨0,0,MsgD.zero⟩⟩
def AcE.row (d:AcE) (u:Value):List Value:=[.int .i64 d.k, .int .i64 d.n] ++ mRow d.m u
def AcER (w:World) (row:List Value) (d:AcE):Prop:=(∃ u,row = d.row u∧Recs 2 TxR w u d.m.bk.txs)∧d.m.Raw∧I64 d.k∧I64 d.n
theorem AcER.stays:Stays AcER:=fun _ _ _ _ ⟨⟨u,h1,h2⟩,h4⟩ he=>⟨⟨u,h1,h2.ext TxR.stays he⟩,h4⟩
structure NtE where
 k:Int
 to:Int
 n:Int
 m:MsgD
instance:Inhabited NtE:=⟨⟨0,0,0,MsgD.zero⟩⟩
def NtE.row (d:NtE) (u:Value):List Value:=[.int .i64 d.k, .int .i64 d.to, .int .i64 d.n] ++ mRow d.m u
def NtER (w:World) (row:List Value) (d:NtE):Prop:=(∃ u,row = d.row u∧Recs 2 TxR w u d.m.bk.txs)∧d.m.Raw∧I64 d.k∧I64 d.to∧I64 d.n
theorem NtER.stays:Stays NtER:=fun _ _ _ _ ⟨⟨u,h1,h2⟩,h4⟩ he=>⟨⟨u,h1,h2.ext TxR.stays he⟩,h4⟩
theorem Tryz.elNtE:ElS Tryz.prog 25 44 16:=ElS.of Tryz.underlying25 (by kernel_rfl)
theorem Tryz.stNtE:StN Tryz.prog 44 16 (.int .i64 0 :: .int .i64 0 :: .int .i64 0 :: mZero):=StN.of (by kernel_rfl) (by kernel_rfl) rfl
theorem rd_NtE {fuel:Nat} {cs:List Value} {y:DataW H × List MemPlace} (hlen:cs.length = 16) (hy:DataW.trod enc Tryz.prog W 0 (fun _=>true) true fuel 44 cs = some y) (hw:Fits Tryz.prog 44 y.1):∃ d,NtER W cs d:=by
 obtain ⟨xs,m,_,rfl,_,hxl,hf⟩:=DataW.trod_struct Tryz.underlying44 hy
 match xs,hxl,cs,hlen with
 | [y0,y1,y2,y3],_, [c0,c1,c2,c3,c4,c5,c6,c7,c8,c9,c10,c11,c12,c13,c14,c15],_ =>
  have k0:DataW.trod enc Tryz.prog W 0 (fun _=>true) true m 3 [c0] = some y0:=hf 0 _ rfl
  have k1:DataW.trod enc Tryz.prog W 0 (fun _=>true) true m 3 [c1] = some y1:=hf 1 _ rfl
  have k2:DataW.trod enc Tryz.prog W 0 (fun _=>true) true m 3 [c2] = some y2:=hf 2 _ rfl
  have k3:DataW.trod enc Tryz.prog W 0 (fun _=>true) true m 42 [c3,c4,c5,c6,c7,c8,c9,c10,c11,c12,c13,c14,c15] = some y3:=hf 3 _ rfl
  simp only [List.map_cons,List.map_nil] at hw
  obtain ⟨a0,e0,_,b0⟩:=DataW.trod_int Tryz.underlying3 k0
  injection e0 with e0 _
  subst e0
  obtain ⟨a1,e1,_,b1⟩:=DataW.trod_int Tryz.underlying3 k1
  injection e1 with e1 _
  subst e1
  obtain ⟨a2,e2,_,b2⟩:=DataW.trod_int Tryz.underlying3 k2
  injection e2 with e2 _
  subst e2
  obtain ⟨d,⟨u,hrow,hr⟩,hraw⟩:=rd_Msg (y:=y3) rfl k3 (hw.part Tryz.underlying44 (j:=3) rfl rfl)
  exact ⟨⟨a0,a1,a2,d⟩,⟨u,by unfold NtE.row;rw [← hrow];rfl,hr⟩,hraw,i64_wf b0,i64_wf b1,i64_wf b2⟩
theorem arg_NtEs {base:Nat} {v:Value} {d:DataW H} {ps:List MemPlace} {ts:List TypeId} {ds:List (DataW H)} (hsz:(DataW.weightsEach Tryz.prog ts ds).all (· ≤ reachBytes) = true) {j:Nat} (ht:ts[j]? = some 25) (hd:ds[j]? = some d)
  (hval:Value.okWide Tryz.prog W .any base 25 v) (h:DataW.Trod enc Tryz.prog W 0 (fun _=>true) true 25 v d ps):∃ l:List NtE,Recs 16 NtER W v l:=by
 obtain ⟨a0,len0,cap0,rfl⟩:=okWide_slice Tryz.underlying25 hval
 obtain ⟨fuel,hf⟩:=h
 obtain ⟨l,hl,_⟩:=rd_recs (n:=16) (R:=NtER) Tryz.underlying25 (by kernel_rfl) (fun fuel cs y hlen hy hw=>rd_NtE hlen hy hw) hf (fits_arg hsz ht hd)
 exact ⟨l,hl⟩
theorem w_NtEidx {P:Program} {ops:Array Oper} {rest:List Oper} {o:Oper} {a:Act} {Q:Exit→Act→World→Prop} {w W0:World} {t e:TypeId} {v:Value} {l:List NtE} (E:ElS P t e 16) (x y:Operand) (i:Nat) (hgd:o.guard = none) (ho:o.op = .indexAddr t x y) (hv:a.eval x = v) (hy:a.eval y = .int .i64 i)
  (h:Recs 16 NtER W0 v l) (he:Ext W0 w) {d:NtE} (hd:l[i]? = some d) (k:∀ p u,RowAt w p (d.row u)→Recs 2 TxR W0 u d.m.bk.txs→d.m.Raw→wpList P ops Q rest (a.put o.dst (.pointer (some p))) w):wpList P ops Q (o :: rest) a w:=by
 have hi:=(List.getElem?_eq_some_iff.1 hd).1
 have e:l[i] = d:=(List.getElem?_eq_some_iff.1 hd).2
 refine w_ridx0 E x y i NtER.stays hgd ho hv hy h he hi ?_
 rintro pa row hrow _ ⟨⟨u,rfl,hu⟩,hr,_⟩
 rw [e] at hrow hu hr
 exact k pa u (hrow.ext he) hu hr
end
end Go.Proofs.YtdoeoncmhaihbaaGreat
