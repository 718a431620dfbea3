/- The view in which, or behind which, enough have voted: the method. · How many entries maps have at most; the object that is a core; the object that is a turn of it. · What a core tells of itself, and what it asks of itself, reading alone. · A region that draws its order, by an invariant of its states: what is told of the slots and of the memory when some of its operations have come up, whichever; each operation that may come up keeps it. For regions in which an operation writes to what the region itself made. -/
import Derived.Test.YtdoeoncmhaihbaaGreatPk10
import Derived.Test.YtdoeoncmhaihbaaGreatPk09
import Derived.Test.YtdoeoncmhaihbaaGreatPk03
namespace Go.Proofs.YtdoeoncmhaihbaaGreat
set_option maxRecDepth 100000
open Go.RowKit
set_option maxHeartbeats 6400000 in
theorem TAhead_any {X:Nat→Prop} {w:World} {p:Nat} {t:List Int} {T:Tab} {N:Nat} {view:Int} (h0:Tal X w p t T N) (hXw:∀ k,X k→k < w.heap.size) (hN:N≤2100) {r:Int} (hr0:T.aheadOf t view = r) :
  Calls Tryz.prog 60 #[.pointer (some ⟨p,0,none⟩), .int .i64 view] w fun e w'=>e = .returned (.int .i64 r)∧Ext w w':=by
 refine calls_fr (r:=none) (n:=0) ?_
 refine callsIn_of_wp_marks Tryz.func60 rfl trivial ?_ rfl
 simp only [Tryz.ntmps60,List.size_toArray,List.length_cons,List.length_nil,Nat.reduceAdd,Nat.reduceSub,Array.replicate_succ,Array.replicate_zero,List.push_toArray,List.append_toArray,List.nil_append,List.cons_append]
 have hT:=hide_ h0
 have hok:=hide_ h0.st
 have htab:=hide_ h0.ok
 have hr:=hide_ hr0
 have hXw':=hide_ hXw
 obtain ⟨sv,g,D,m,hTw0⟩:=h0
 have hTw:=hide_ hTw0
 have hX:=Ext.refl w
 clear hTw0 hr0 hXw
 gi_wp2_with (refine listIn (by kernel_rfl) ?_;go_wp2_with ((first | ((with_reducible refine at_box ?_);refine w_box _ [.pointer (some ⟨p,0,none⟩)] rfl rfl rfl rfl ?_;intro b2 w1 hb2 hx f2;replace hX:=hX.trans hx;clear hx) | ((with_reducible refine at_alloc ?_);refine w_alloc1 (t:=3) (z := .int .i64 0) (by kernel_rfl) rfl rfl rfl ?_;intro br w2 hbr0 hx fr;have hbr:=hide_ (Nat.le_trans hX.size hbr0);have n2r:=hide_ (show b2≠br from by have:=f2.lt;omega);replace f2:=f2.ext hx;replace hX:=hX.trans hx;clear hx) | ((with_reducible refine at_mkm ?_);refine w_mkmap rfl rfl ?_;intro gm w3 hgm0 hx om;have hgm:=hide_ (Nat.le_trans hX.size hgm0);have ngm:=hide_ (show b2≠gm∧br≠gm from by have:=f2.lt;have:=fr.lt;exact ⟨by omega,by omega⟩);replace f2:=f2.ext hx;replace fr:=fr.ext hx;replace hX:=hX.trans hx;clear hx) | ((with_reducible refine at_alloc ?_);refine w_alloc1 (t:=124) (z := .map none) (by kernel_rfl) rfl rfl rfl ?_;intro b5 w4 hb50 hx f5;have hb5:=hide_ (Nat.le_trans hX.size hb50);have n5:=hide_ (show b2≠b5∧br≠b5∧gm≠b5 from by have:=f2.lt;have:=fr.lt;have:=om.lt;exact ⟨by omega,by omega,by omega⟩);replace f2:=f2.ext hx;replace fr:=fr.ext hx;replace om:=ownsMap_ext om hx;replace hX:=hX.trans hx;clear hx) | ((with_reducible refine at_store ?_);refine w_fstore _ _ rfl rfl rfl rfl rfl f5 (by simp) rfl rfl (by kernel_rfl) ?_;intro w5 hm5 f5';replace f5:Fs w5 b5 [.map (some gm)]:=f5';replace f2:=f2.mod hm5 n5.out.1;replace fr:=fr.mod hm5 n5.out.2.1;replace om:=ownsMap_mod om hm5 n5.out.2.2;replace hX:=hm5.after hX (by intro j hj;have e:j = b5:=hj;rw [e];exact hb5.out);clear hm5 f5') | ((with_reducible refine at_load ?_);refine w_fload _ rfl rfl rfl f2 rfl (agg_of (by kernel_rfl)) ?_) | (go_at_call 79;refine (viewsAbove_any p view _).mono ?_;rintro e w6 ⟨b3,b4,rfl,f3,f4,hb3,hb4,hx⟩;have n4:=hide_ (show b4≠gm∧b4≠br from by have:=om.lt;have:=fr.lt;exact ⟨by omega,by omega⟩);replace f2:=f2.ext hx;replace fr:=fr.ext hx;replace f5:=f5.ext hx;replace om:=ownsMap_ext om hx;replace hX:=hX.trans hx;clear hx hb3 hb4) | refine noOut_n ?_ | fail) <;> (try simp only [Act.put,List.setIfInBounds_toArray,List.set_cons_zero,List.set_cons_succ])))
 clear hbr0 hgm0 hb50 hb2
 have f20:=hide_ f2
 have f50:=hide_ f5
 have hXX:=hide_ hX
 have hmL:=hide_ om.lt
 have hrL:=hide_ fr.lt
 obtain ⟨U,hU⟩:∃ U,ups (vwsOf m) view = U:=⟨_,rfl⟩
 obtain ⟨m0,hm0⟩:∃ m0,U.length = m0:=⟨_,rfl⟩
 have hm1:=hide_ (show m0≤1001 from by
  have h1:(ups (vwsOf m) view).length≤(vwsOf m).length:=by unfold ups;rw [List.length_reverse];exact List.length_filter_le _ _
  have:=hTw.out.vws.len;rw [hU] at h1;omega)
 have hXgm:=hide_ (show ∀ j,X j→¬ j = gm from fun j hj e=>by have:=hXw'.out j hj;have:=hgm.out;omega)
 have hXbr:=hide_ (show ∀ j,X j→¬ (j = gm∨j = br) from fun j hj e=>by have:=hXw'.out j hj;have:=hgm.out;have:=hbr.out;omega)
 refine wp_rangeSeq (gf:=95) (lb:=#[.pointer (some ⟨b3,0,none⟩), .pointer (some ⟨b4,0,none⟩)]) (G:=fun b=>b = gm∨b = br) (G1:=fun b=>b = gm∨b = br) rfl (enters_of Tryz.func95 (by kernel_rfl) rfl)
  (above_seq f3 f4 (hTw.out.ext hX) hN (fun h=>h.elim n4.out.1 n4.out.2) (fun j hj => ?g2)) (Ext.refl _) (fun x hx => ?sz) (fun b hb=>⟨?g3, .inl hb⟩)
  (fun k A=>Mod (fun b=>b = gm) w6 A∧k≤m0∧(∃ c,ThereIs A gm t.length (inV T U k) c∧c≤14 * k)∧(k = 0∨some3 t (picks (inV T U k) t.length) = false))
  (fun c k A=>c = .ret∧Mod (fun b=>b = gm∨b = br) w6 A∧Fs A br [.int .i64 r]) ?sI ?sIx ?i0
  (fun k=>{ tmps:=#[.pointer (some ⟨p,0,none⟩), .int .i64 view, .pointer (some ⟨b2,0,none⟩),undef, .pointer (some ⟨br,0,none⟩), .pointer (some ⟨b5,0,none⟩), .int .i64 (U.getD k 0),undef,undef,undef,undef, .map (some gm), .pointer (some ⟨p,0,none⟩), .int .i64 view, .func (.func 95) #[] #[.pointer (some ⟨b3,0,none⟩), .pointer (some ⟨b4,0,none⟩)], .int .i64 (U.getD k 0),undef,undef,undef,undef,undef,undef,undef,undef,undef,undef,undef,undef,undef,undef,undef,undef,undef,undef,undef,undef,undef,undef,undef,undef,undef,undef,undef,undef,undef,undef],defers:=[] }) ?assign ?body ?done ?stop
 case assign =>
  intro l2 k hk W2 K hK
  rw [List.getElem_map, ← getD_at (ups (vwsOf m) view) (by simpa using hk),hU]
  simp only [Array.zip_eq_zipWith,List.zipWith_toArray,List.zipWith_cons_cons,List.zipWith_nil_left]
  try dsimp only at hK
  obtain ⟨x,hx⟩:∃ x,U.getD k 0 = x:=⟨_,rfl⟩
  rw [hx] at hK ⊢
  clear hx
  refine region_in (by kernel_rfl) ?_
  go_wp2_with (refine noOut_n ?_)
  exact hK
 case body =>
  rintro l2 k hk0 W hsz ⟨hM0,hkm,⟨c0,hth0,hc0⟩,hno0⟩
  rw [List.length_map,hU,hm0] at hk0
  try dsimp only
  obtain ⟨x,hx⟩:∃ x,U.getD k 0 = x:=⟨_,rfl⟩
  rw [hx]
  have hno:=hide_ hno0
  have hxx:=hide_ hx
  have hkm':=hide_ hk0
  have hx64:=hide_ (show In64 x from by
   have h1:(ups (vwsOf m) view)[k]'(by rw [hU,hm0];exact hk0)∈ups (vwsOf m) view:=List.getElem_mem _
   have h2:=hTw.out.vws.fit _ (mem_ups.1 h1).1
   rw [← getD_at,hU,hx] at h2
   unfold In64;omega)
  have f2:=hide_ (f20.out.mod hM0 ngm.out.1)
  have f5:=hide_ (f50.out.mod hM0 (Ne.symm n5.out.2.2))
  have hTW:=hide_ ((hTw.out.ext hXX.out).mod hM0 hXgm.out)
  have hth0':=hide_ hth0
  have hgmW:=hide_ hth0.lt
  have hM0':=hide_ hM0
  obtain ⟨KK,hKK⟩:∃ KK:List Int,([4,5]:List Int) = KK:=⟨_,rfl⟩
  have hKK':=hide_ hKK
  have hKl:=hide_ (show KK.length = 2 from by subst hKK;rfl)
  clear hno0 hx hth0 hM0 hk0 hkm
  gi_wp2_with (refine listIn (by kernel_rfl) ?_;go_wp2_with ((first | ((with_reducible refine at_lit ?_);refine w_new Tryz.elI (i64s [4,5]) rfl rfl rfl (i64s_cells _) rfl (by omega) ?_;intro u16 W4 hx4 o16;replace o16:OwnI W.heap.size W4 u16 KK:=hKK'.out ▸ (show OwnI W.heap.size W4 u16 [4,5] from o16)) | ((with_reducible refine at_bi ?_);refine i_len _ rfl rfl rfl o16.ints ?_) | refine noOut_n ?_ | fail) <;> (try simp only [Act.put,List.setIfInBounds_toArray,List.set_cons_zero,List.set_cons_succ])))
  have hub:=hide_ (fun j (hj:u16.ownBlock = some j)=>(show ¬ j = gm from by have:=(o16.own_lt hj).1;have:=hgmW.out;omega))
  have hi16:=hide_ o16.ints
  clear o16 hKK
  gi_loopw [18] (fun u18 wr => ∃ a c:Nat,u18 = .int .i64 a∧a≤KK.length∧Hid (ThereIs wr gm t.length (qa T U k a x) c)∧Hid (c≤14 * k + 7 * a)∧Mod (fun b=>b = gm) W wr∧Ints wr u16 KK) (fun i _=>KK.length - (intOf i).toNat)
  case atStart=>exact ⟨0,c0,rfl,Nat.zero_le _,(hth0'.out.ext hx4).congr fun i _=>qa_zero T U k x i,(show c0≤14 * k + 7 * 0 from hc0),hx4.mod _,hi16.out⟩
  case round =>
   obtain ⟨a,c,rfl,ha,hth,hc,hM,hk16⟩:=hrel
   by_cases hlt0:a < KK.length
   ·have hlt:=hide_ hlt0
    have tl:decide (a < KK.length) = true:=decide_eq_true hlt0
    have ha7:a≤2:=by have:=hKl.out;omega
    obtain ⟨kd,hkd0⟩:∃ kd,KK[a] = kd:=⟨_,rfl⟩
    have hkd:=hide_ hkd0
    have hkd2:=hide_ (show ([4,5]:List Int)[a]? = some kd from by rw [hKK'.out,List.getElem?_eq_getElem hlt0];exact congrArg some hkd0)
    have hkd64:=hide_ (show In64 kd from by
     have h1:kd∈KK:=hkd0 ▸ List.getElem_mem hlt0
     rw [← hKK'.out] at h1
     simp only [List.mem_cons,List.not_mem_nil,or_false] at h1
     unfold In64;omega)
    obtain ⟨L,hL0⟩:∃ L,T.all t.length kd x = L:=⟨_,rfl⟩
    have f2r:=f2.out.mod hM ngm.out.1
    clear hkd0 hlt0
    gi_wp2_with (refine listIn (by kernel_rfl) ?_;go_wp2_with ((first | ((with_reducible refine at_idx ?_);refine i_idx _ _ a rfl rfl rfl hk16 rfl hlt.out ?_;intro ad had;replace had:=had.trans (congrArg (fun z=>some (Value.int .i64 z)) hkd.out)) | ((with_reducible refine at_load ?_);refine w_fload _ rfl rfl rfl f2r rfl (agg_of (by kernel_rfl)) ?_) | (go_at_call 80;refine (TAll_any ⟨_,_,_,_,hTW.out.mod hM hXgm.out⟩ hN hkd64.out hx64.out hL0).mono ?_;rintro e w2 ⟨ua,rfl,oa,hx⟩;have hub2:=hide_ (fun j (hj:ua.ownBlock = some j)=>(show ¬ j = gm from by have h1:=(oa.own_lt hj).1;have h2:=hgmW.out;have h3:=hM.size;omega));replace hM:=hM.thenE hx;replace hth:=hide_ (hth.out.ext hx);replace hk16:=hk16.ext hx;clear hx) | ((with_reducible refine at_bi ?_);refine i_len _ rfl rfl rfl oa.ints ?_) | refine noOut_n ?_ | fail) <;> (try simp only [Act.put,List.setIfInBounds_toArray,List.set_cons_zero,List.set_cons_succ])))
    have hi17:=hide_ oa.ints
    have hL:=hide_ (show L = picks (T.any kd x) t.length from hL0.symm)
    have hth1:=hide_ hth.out
    have hL7:=hide_ (show L.length≤7 from by rw [hL.out];have:=picks_len (T.any kd x) t.length;have:=hok.out.2.1;omega)
    clear hL0 oa hth
    gi_loopw [27] (fun u27 w3 => ∃ i c':Nat,u27 = .int .i64 i∧i≤L.length∧Hid (ThereIs w3 gm t.length (qi (qa T U k a x) L i) c')∧Hid (c'≤14 * k + 7 * a + i)∧Mod (fun b=>b = gm) W w3∧Ints w3 u16 KK∧Ints w3 ua L) (fun i _=>L.length - (intOf i).toNat)
    case atStart=>exact ⟨0,c,rfl,Nat.zero_le _,hth1.out.congr fun i _=>qi_zero _ L i,(show c≤14 * k + 7 * a + 0 from hc.out),hM,hk16,hi17.out⟩
    case round =>
     clear hM hk16
     obtain ⟨i,c',rfl,hi,hth,hc',hM,hk16,hk17⟩:=hrel
     by_cases hlt1:i < L.length
     ·have hlti:=hide_ hlt1
      have tl2:decide (i < L.length) = true:=decide_eq_true hlt1
      have hi7:i≤7:=by have:=hL7.out;omega
      obtain ⟨nd,hnd0,hnd1,hnd2⟩:=mem_picks.1 ((congrArg (fun l=>L[i]'(hlti.out)∈l) hL.out).mp (List.getElem_mem hlti.out))
      have hnd:=hide_ hnd2
      have hndl:=hide_ hnd0
      have hn64:=hide_ (In64.nat (n:=nd) (by have:=hok.out.2.1;omega))
      have f5r:=f5.out.mod hM (Ne.symm n5.out.2.2)
      obtain ⟨D3,hD1,hD2,hD3⟩:=hth.out
      have hsz1:=hide_ (show c'≤1000000 from by have h1:=hc'.out;have h2:=hkm'.out;have h3:=hm1.out;have h4:=hKl.out;omega)
      have hput:=hide_ (fun v=>has_put (v:=v) hD2 hnd0 hD3 (fun j _=>qi_succ (qa T U k a x) hlti.out hnd2 j))
      have hisp:=hide_ hD2
      clear hlt1 hnd0 hnd1 hnd2 hD3 hD2 hth
      gi_wp2_with (refine listIn (by kernel_rfl) ?_;go_wp2_with ((first | ((with_reducible refine at_idx ?_);refine i_idx _ _ i rfl rfl rfl hk17 rfl hlti.out ?_;intro ad had;replace had:=had.trans (congrArg (fun z=>some (Value.int .i64 z)) hnd.out)) | ((with_reducible refine at_load ?_);refine w_fload _ rfl rfl rfl f5r rfl (agg_of (by kernel_rfl)) ?_) | (refine w_mput Tryz.keyI Tryz.underlying124 _ _ _ rfl rfl rfl rfl rfl rfl hD1 hsz1.out (Maps.keyOf_int_mk Tryz.underlying3 hn64.out.wf) ?_;intro w9 hm9 o9) | refine noOut_n ?_ | fail) <;> (try simp only [Act.put,List.setIfInBounds_toArray,List.set_cons_zero,List.set_cons_succ])))
      replace hM:=hM.thenM hm9
      replace hk16:=ints_mod hk16 hm9 hub.out
      replace hk17:=ints_mod hk17 hm9 hub2.out
      go_roundw
      case rel=>exact ⟨i + 1,c' + 1,by go_num,by have:=hlti.out;omega,⟨_,o9,hisp.out.put _ _,hput.out _⟩,(by have:=hc'.out;show c' + 1≤14 * k + 7 * a + (i + 1);omega),hM,hk16,hk17⟩
      case measure=>have:=hlti.out;simp [intOf];omega
     ·have tl2:decide (i < L.length) = false:=decide_eq_false hlt1
      have hth9:=hide_ (show ThereIs wr gm t.length (qa T U k (a + 1) x) c' from hth.out.congr fun j hj=>by
       have hiL:i = L.length:=by omega
       rw [hiL,hL.out,qi_all _ hj]
       exact qa_succ T U k x (by have:=hlt.out;have:=hKl.out;omega) hkd2.out j)
      have hc9:=hide_ (show c'≤14 * k + 7 * (a + 1) from by have:=hc'.out;have:=hL7.out;omega)
      clear hlt1 hth
      gi_wp2_with (first | (refine listIn (by kernel_rfl) ?_;go_wp2_with (refine noOut_n ?_)) | fail)
      go_roundw
      case rel=>exact ⟨a + 1,c',by go_num,by have:=hlt.out;omega,hth9.out,hc9.out,hM,hk16⟩
      case measure=>have:=hlt.out;simp [intOf];omega
   ·have tl:decide (a < KK.length) = false:=decide_eq_false hlt0
    have hth9:=hide_ (show ThereIs wr gm t.length (inV T U (k + 1)) c from hth.out.congr fun j _=>by
     have:a = 2:=by have:=hKl.out;omega
     rw [this];exact qa_two T U k hxx.out j)
    have hc9:=hide_ (show c≤14 * (k + 1) from by have:=hc.out;have:=hKl.out;omega)
    have hcl:=hide_ (show c≤20000 from by have:=hc9.out;have:=hkm'.out;have:=hm1.out;omega)
    have hn7:=hide_ (show t.length≤7 from hok.out.2.1)
    clear hlt0 hth hc hk16
    gi_wp2_with (first | (refine listIn (by kernel_rfl) ?_;go_wp2_with (refine noOut_n ?_)) | fail)
    have f2r:=f2.out.mod hM ngm.out.1
    have f5r:=f5.out.mod hM (Ne.symm n5.out.2.2)
    have hTr:=hide_ (hTW.out.mod hM hXgm.out)
    have f0r:=hide_ hTr.out.obj
    have str:=hide_ hTr.out.stk
    have hthr:=hth9.out
    have hws:=hide_ (picks_i64s (inV T U (k + 1)) hn7.out)
    obtain ⟨q,hq0⟩:∃ q,some3 t (picks (inV T U (k + 1)) t.length) = q:=⟨_,rfl⟩
    have hq:=hide_ hq0
    clear hq0 hTr
    refine region_phx_in (by kernel_rfl) (by kernel_rfl) ?_;intro wd hxd;have F2:=f2r.ext hxd;have F5:=f5r.ext hxd;have F0:=f0r.out.ext hxd;have S0:=str.out.ext hxd;have TH:=hthr.ext hxd
    refine Ph.rest 0 8 (by kernel_rfl) ?_
    refine LinL.step (s:=(.val (.pointer (some ⟨p,0,none⟩)))) [(2,none)] rfl (by kernel_rfl) (op_runs rfl fun σ w' hx hg=>⟨_,runs_fload (ρ := σ.eval) (w:=w') (.tmp 2) rfl hg.1 (agg_of (by kernel_rfl) _) (F2.ext hx) rfl,rfl⟩) ?_
    refine LinL.step (s:=(.val (.pointer (some ⟨p,0,none⟩)))) [(36,some 0)] rfl (by kernel_rfl) (op_runs rfl fun σ w' hx hg=>⟨_,runs_nil (ρ := σ.eval) (w:=w') (.tmp 36) rfl hg.1,rfl⟩) ?_
    refine LinL.step (s:=(.val (.pointer (some ⟨p,0,none⟩)))) [(37,some 0)] rfl (by kernel_rfl) (op_runs rfl fun σ w' hx hg=>⟨_,runs_field (ρ := σ.eval) (w:=w') Tryz.stTal (.tmp 37) p 0 rfl hg.1 (by omega),rfl⟩) ?_
    refine LinL.step (s:=(.val (sv))) [(38,some 0)] rfl (by kernel_rfl) (op_runs rfl fun σ w' hx hg=>⟨_,runs_fload (ρ := σ.eval) (w:=w') (.tmp 38) rfl hg.1 (agg_of (by kernel_rfl) _) (F0.ext hx) rfl,rfl⟩) ?_
    refine LinL.step (s:=(.val (.map (some gm)))) [(5,none)] rfl (by kernel_rfl) (op_runs rfl fun σ w' hx hg=>⟨_,runs_fload (ρ := σ.eval) (w:=w') (.tmp 5) rfl hg.1 (agg_of (by kernel_rfl) _) (F5.ext hx) rfl,rfl⟩) ?_
    refine LinL.step (s:=(Sp.keysU gm)) [(40,some 0)] rfl (by kernel_rfl) (op_calls 81 #[(.tmp 40)] #[124] (fun σ => #[.map (some gm)]) rfl rfl (fun _ _=>rfl) fun σ w' hx hg=>⟨by have h40 : σ.tmps.getD 40 undef = .map (some gm):=hg.1;simp only [List.map_toArray,List.map_cons,List.map_nil,Act.eval,h40],keysR gm w'⟩) ?_
    refine LinL.step (s:=(Sp.ints (picks (inV T U (k + 1)) t.length))) [(41,some 0)] rfl (by kernel_rfl) (op_calls 75 #[(.tmp 41)] #[121] (fun σ => #[σ.tmps.getD 41 undef]) rfl rfl (fun _ _=>rfl) fun σ w' hx hg=>⟨by skip;simp only [List.map_toArray,List.map_cons,List.map_nil,Act.eval],sortR hg.1 (TH.ext hx) hcl.out hn7.out⟩) ?_
    refine LinL.step (s:=(.val (.bool q))) [(39,some 3),(42,some 0)] rfl (by kernel_rfl) (op_calls 77 #[(.tmp 39),(.tmp 42)] #[22,22] (fun σ => #[sv,σ.tmps.getD 42 undef]) rfl rfl (fun _ _=>rfl) fun σ w' hx hg=>⟨by have h39 : σ.tmps.getD 39 undef = sv:=hg.1;simp only [List.map_toArray,List.map_cons,List.map_nil,Act.eval,h39],someR ⟨hok.out,S0.ext hx,hg.2.1,hws.out.1,hws.out.2⟩ hq.out⟩) ?_
    intro wN hxN
    simp only [Fin',Sp.ints,Sp.keysU,List.reverse_cons,List.reverse_nil,List.nil_append,List.cons_append,List.drop_zero,List.take_succ_cons,List.take_zero]
    intro q41 hq41 q42 hq42
    refine z0z ?_
    refine noOut_n ?_
    replace hM:=(hM.thenE hxd).thenE hxN
    have hth0:=(hth9.out.ext hxd).ext hxN
    have fr6:=hide_ fr
    clear hxd hxN F0 S0 F2 F5 TH hthr f2r f5r hq41 hq42
    cases q
    ·gi_wp2_with (first | (refine listIn (by kernel_rfl) ?_;go_wp2_with (refine noOut_n ?_)) | fail)
     exact ⟨hM.mono fun _ _ e=>.inl e,hM0'.out.thenM hM,by have:=hkm'.out;omega,⟨c,hth0,hc9.out⟩, .inr hq.out⟩
    ·have hans:=hide_ (show x = r from by
      rw [← hxx.out, ← hr.out, ← hU]
      exact (ahead_yes htab.out hok.out hTw.out.vws (by rw [hU,hm0];exact hkm'.out) (by rw [hU];exact hno.out) (by rw [hU];exact hq.out)).symm)
     have frN:=fr6.out.mod (hM0'.out.thenM hM) ngm.out.2
     gi_wp2_with (refine listIn (by kernel_rfl) ?_;go_wp2_with ((first | ((with_reducible refine at_store ?_);refine w_fstore _ _ rfl rfl rfl rfl rfl frN (by simp) rfl rfl (by kernel_rfl) ?_;intro w7 hm7 fr7;replace fr7:Fs w7 br [.int .i64 x]:=fr7) | refine noOut_n ?_ | fail) <;> (try simp only [Act.put,List.setIfInBounds_toArray,List.set_cons_zero,List.set_cons_succ])))
     exact ⟨(hM.mono fun _ _ e=>.inl e).trans hm7 fun _ _ e=>.inr e,rfl,((hM0'.out.thenM hM).mono fun _ _ e=>.inl e).trans hm7 fun _ _ e=>.inr e,hans.out ▸ fr7⟩
 case g2=>have e:j = gm∨j = br:=hj;have:=hmL.out;have:=hrL.out;rcases e with e | e <;> omega
 case sz=>obtain ⟨k,hk,rfl⟩:=List.mem_map.1 hx;rfl
 case g3=>have:=hmL.out;have:=hrL.out;rcases hb with e | e <;> omega
 case sI=>exact fun k A B ⟨h1,h2,⟨c,h3,h4⟩,h5⟩ hb=>⟨h1.thenB hb,h2,⟨c,h3.below hb hmL.out,h4⟩,h5⟩
 case sIx=>exact fun c k A B ⟨h1,h2,h3⟩ hb=>⟨h1,h2.thenB hb,h3.below hb hrL.out⟩
 case i0=>exact ⟨Mod.refl _ _,Nat.zero_le _,⟨0,ThereIs.nil om fun i _=>decide_eq_false fun ⟨j,hj,_⟩=>by omega,by omega⟩, .inl rfl⟩
 case done =>
  rintro D2 W2 hD ⟨h1,h2,h3,h4⟩ hK
  rw [List.length_map,hU,hm0] at h4
  have hans:=hide_ ((ahead_no hok.out hTw.out.vws (by rw [hU,hm0];exact h4)).symm.trans hr.out)
  have fr2:=fr.mod h1 ngm.out.2
  have hD2:=hide_ (show br≠D2 from fun e=>by have:=hrL.out;omega)
  gi_wp2_with (refine listIn (by kernel_rfl) ?_;go_wp2_with ((first | ((with_reducible refine at_store ?_);refine w_fstore _ _ rfl rfl rfl rfl rfl fr2 (by simp) rfl rfl (by kernel_rfl) ?_;intro w7 hm7 fr7;replace fr7:Fs w7 br [.int .i64 view]:=fr7) | refine noOut_n ?_ | fail) <;> (try simp only [Act.put,List.setIfInBounds_toArray,List.set_cons_zero,List.set_cons_succ])))
  have hK7:=(hm7.block D2 (Array.getElem?_eq_some_iff.1 hK).1 (fun e=>hD2.out (by have e':D2 = br:=e;exact e'.symm))).trans hK
  refine ⟨by simp, .inl ⟨_,_,rfl,run_takeDeferred hK7, ?_⟩⟩
  refine ⟨_,results_cell1 rfl rfl (agg_of (by kernel_rfl) _) (fr7.mod (Mod.putObj _ _ _) hD2.out),by rw [hans.out], ?_⟩
  exact (Mod.putObj _ _ _).after (hm7.after (h1.after hXX.out fun j e=>by have e':j = gm:=e;rw [e'];exact hgm.out) fun j e=>by have e':j = br:=e;rw [e'];exact hbr.out) fun j e=>by have:=hXX.out.size;have e':j = D2:=e;omega
 case stop =>
  rintro D2 c k W2 hD hk ⟨rfl,h2,h3⟩ hK
  have hD2:br≠D2:=fun e=>by have:=hrL.out;omega
  refine wpIn_ret ?_
  refine ⟨by simp, .inl ⟨_,_,rfl,run_takeDeferred hK, ?_⟩⟩
  refine ⟨_,results_cell1 rfl rfl (agg_of (by kernel_rfl) _) (h3.mod (Mod.putObj _ _ _) hD2),rfl, ?_⟩
  exact (Mod.putObj _ _ _).after (h2.after hXX.out fun j e=>by have:=hgm.out;have:=hbr.out;rcases e with e | e <;> omega) fun j e=>by have:=hXX.out.size;omega
theorem size_le_of {w:World} {k:TypeId} {b n:Nat} {D:DataW Value} (h:w.ownsMap Tryz.prog k tok b n D) (K:Maps.Keyed Tryz.prog k) (C:List Go.Lit) (hC:∀ key l,keyOf Tryz.prog k key = some l→Maps.has D l = true→l∈C):Maps.size D≤C.length:=by
 obtain ⟨es,hD,hap,_⟩:=h.entries K
 subst hD
 have hk:∀ p∈es,p.1∈C:=fun p hp=>by
  obtain ⟨es',clock,hb',G,hs',hD'⟩:=h
  have hp':=hp
  injection hD' with hD'
  rw [hD'] at hp'
  obtain ⟨e,he,rfl⟩:=List.mem_map.1 (mem_sorted.1 hp')
  obtain ⟨y,hy⟩:=G.reads e he
  rw [WideElems.rg_of hy] at hp ⊢
  refine hC _ _ (WideElems.rd_key hy) ?_
  rw [Maps.has_eq,List.any_eq_true]
  exact ⟨_,hp,by simpa using WideAt.sameKey_self (K.key (WideElems.rd_key hy))⟩
 have hnd:(es.map (·.1)).Nodup:=by
  rw [List.nodup_iff_pairwise_ne,List.pairwise_map]
  exact hap
 have:=hnd.length_le_of_subset (l₂:=C) fun x hx=>by
  obtain ⟨p,hp,rfl⟩:=List.mem_map.1 hx
  exact hk p hp
 simpa [Maps.size] using this
theorem own_keep {w:World} {k:TypeId} {b n m:Nat} {D:DataW Value} (h:w.ownsMap Tryz.prog k tok b n D) (hm:Maps.size D≤m):w.ownsMap Tryz.prog k tok b m D:=(own_tight h).mono hm
def ints0 (m:Nat):List Go.Lit:=(List.range m).map fun i:Nat=>.int .i64 (i:Int)
theorem mem_ints0 {m:Nat} {x:Int} (h0:0≤x) (hx:x < (m:Int)):(Lit.int .i64 x)∈ints0 m:=List.mem_map.2 ⟨x.toNat,List.mem_range.2 (by omega),by rw [Int.toNat_of_nonneg h0]⟩
theorem size_int {w:World} {b n m:Nat} {D:DataW Value} (h:w.ownsMap Tryz.prog 3 tok b n D) (hb:∀ x:Int,In64 x→Maps.has D (.int .i64 x) = true→0≤x∧x < (m:Int)):Maps.size D≤m:=by
 have:=size_le_of h Tryz.keyI (ints0 m) fun key l hk hh=>by
  obtain ⟨x,rfl,rfl,hw⟩:=Maps.keyOf_int_inv Tryz.underlying3 hk
  obtain ⟨h1,h2⟩:=hb x (wf_in hw) hh
  exact mem_ints0 h1 h2
 simpa [ints0] using this
noncomputable def rks0:List Go.Lit:=(List.range 1001).map (fun i:Nat=>rkL 4 (i:Int)) ++ (List.range 1001).map (fun i:Nat=>rkL 5 (i:Int))
theorem mem_rks0 {k v:Int} (hk:k = 4∨k = 5) (hv:0≤v∧v≤1000):rkL k v∈rks0:=by
 have e:((v.toNat:Nat):Int) = v:=Int.toNat_of_nonneg hv.1
 rcases hk with rfl|rfl
 ·exact List.mem_append_left _ (List.mem_map.2 ⟨v.toNat,List.mem_range.2 (by omega),by rw [e]⟩)
 ·exact List.mem_append_right _ (List.mem_map.2 ⟨v.toNat,List.mem_range.2 (by omega),by rw [e]⟩)
theorem size_rnd {w:World} {b n:Nat} {D:DataW Value} {m:Int→Int→Option Nat} (h:w.ownsMap Tryz.prog 106 tok b n D) (hR:RndM D m):Maps.size D≤2002:=by
 have:=size_le_of h Tryz.keyR rks0 fun key l hk hh=>by
  obtain ⟨k,v,rfl,rfl,h1,h2⟩:=keyR_inv hk
  rw [(hR.get k v h1 h2).1] at hh
  have hne:m k v≠none:=fun e=>by rw [e] at hh;cases hh
  obtain ⟨q1,q2⟩:=hR.dom k v hne
  exact mem_rks0 q1 q2
 exact Nat.le_trans this (by unfold rks0;simp)
theorem Tal.tight {X:Nat→Prop} {w:World} {p:Nat} {t:List Int} {T:Tab} {N:Nat} (h:Tal X w p t T N):Tal X w p t T 2002:=by
 obtain ⟨sv,g,D,m,h⟩:=h
 refine ⟨sv,g,D,m,h.obj,h.stk,h.sto,h.xp,own_keep h.own (size_rnd h.own h.rnd),h.rnd,fun k v => ?_,h.sep,h.ok,h.st⟩
 have hi:=h.inn k v
 cases hm:m k v with
 | none=>rw [hm] at hi;exact hi
 | some b =>
  rw [hm] at hi
  obtain ⟨n,D',_,h1,h2⟩:=hi
  refine ⟨Maps.size D',D', ?_,own_tight h1,h2⟩
  refine Nat.le_trans (size_int h1 (m:=7) fun x hx hh => ?_) (by omega)
  rw [(h2.2 x hx).1] at hh
  obtain ⟨y,hy⟩:=Option.isSome_iff_exists.1 hh
  obtain ⟨i,rfl,hi,_⟩:=fat_some h.ok hy
  have:=h.st.2.1
  omega
theorem addT_vadd (n:Nat) (T:Tab) (k v:Int) (i:Nat) (x:Int):addT n T k v (i:Int) x = vadd n T k v i x∧addOk n T k v (i:Int) x = vok n T k v i x:=by
 have e:(CanB k v x∧(0≤(i:Int)∧(i:Int) < (n:Int))∧fat (T k v) (i:Int) = none) ↔ (((k = 4∨k = 5)∧(0≤v∧v≤1000) ∧ -1≤x)∧i < n∧T k v i = none):=by
  rw [fat_nat];unfold CanB
  constructor
  ·rintro ⟨h1,h2,h3⟩;exact ⟨h1,by omega,h3⟩
  ·rintro ⟨h1,h2,h3⟩;exact ⟨h1,by omega,h3⟩
 have ho:addOk n T k v (i:Int) x = vok n T k v i x:=by unfold addOk vok;exact decide_eq_decide.2 e
 refine ⟨?_,ho⟩
 unfold addT vadd
 by_cases h:vok n T k v i x = true
 ·rw [if_pos h,if_pos (e.2 (vok_iff.1 h))]
  funext k' v' i';unfold putT vput;simp
 ·rw [if_neg h,if_neg fun q=>h (vok_iff.2 (e.1 q))]
structure Stp (lo hi:Nat) (S S':Nat→Nat) (w w':World):Prop where
 mod:Mod (fun k=>lo≤S k∧S k≤hi) w w'
 same:∀ k,k < w.heap.size→S' k = S k
 bnd:∀ k,S' k≠0→k < w'.heap.size
section
variable {lo hi:Nat} {S S' S'':Nat→Nat} {w w' w'':World}
theorem Stp.refl (hb:∀ k,S k≠0→k < w.heap.size):Stp lo hi S S w w:=⟨Mod.refl _ _,fun _ _=>rfl,hb⟩
theorem Stp.ofExt (he:Ext w w') (hb:∀ k,S k≠0→k < w.heap.size):Stp lo hi S S w w':=⟨he.mod _,fun _ _=>rfl,fun k h=>Nat.lt_of_lt_of_le (hb k h) he.size⟩
theorem Stp.ofMod {F:Nat→Prop} (hm:Mod F w w') (hF:∀ k,F k→lo≤S k∧S k≤hi) (hb:∀ k,S k≠0→k < w.heap.size):Stp lo hi S S w w':=⟨hm.mono fun k _ h=>hF k h,fun _ _=>rfl,fun k h=>Nat.lt_of_lt_of_le (hb k h) hm.size⟩
theorem Stp.trans (h:Stp lo hi S S' w w') (k:Stp lo hi S' S'' w' w''):Stp lo hi S S'' w w'' :=
 ⟨h.mod.trans k.mod fun i hi q=>by rw [h.same i hi] at q;exact q,fun i hi=>(k.same i (Nat.lt_of_lt_of_le hi h.mod.size)).trans (h.same i hi),k.bnd⟩
theorem Stp.wide {lo' hi':Nat} (h:Stp lo hi S S' w w') (h1:lo'≤lo) (h2:hi≤hi'):Stp lo' hi' S S' w w':=⟨h.mod.mono fun k _ q=>⟨Nat.le_trans h1 q.1,Nat.le_trans q.2 h2⟩,h.same,h.bnd⟩
theorem Stp.size (h:Stp lo hi S S' w w'):w.heap.size≤w'.heap.size:=h.mod.size
theorem Stp.off (h:Stp lo hi S S' w w') {l:Nat} (hl:l < lo∨hi < l) {k:Nat} (hk:S k = l):¬ (lo≤S k∧S k≤hi):=by rw [hk];omega
end
def coRow (c:CoD) (sv dv:Value) (q gp gs:Nat):List Value:=[.int .i64 (c.me:Nat),sv, .int .i64 c.base, .int .i64 c.most,dv, .int .i64 c.tip, .int .i64 c.view, .int .i64 c.step, .int .i64 c.left, .pointer (some ⟨q,0,none⟩), .map (some gp), .map (some gs), .int .i64 c.lv, .int .i64 c.lw, .int .i64 c.vv, .int .i64 c.vw]
structure CorW (S:Nat→Nat) (w:World) (p:Nat) (sv dv:Value) (q gp gs:Nat) (c:CoD):Prop where
 obj:Fs w p (coRow c sv dv q gp gs)
 lab:S p = 1∧S gp = 2∧S gs = 3
 stk:Ints w sv c.t
 sto:∀ k,sv.ownBlock = some k→S k = 6
 dec:Row (fun k=>S k = 4) w 3 dv (i64s c.dec)
 tal:Tal (fun k=>S k = 5) w q c.t c.T 2002
 prp:∃ n D,n≤1001∧w.ownsMap Tryz.prog 3 tok gp n D∧PrM D c.prop
 sad:∃ n D,n≤7∧w.ownsMap Tryz.prog 3 tok gs n D∧SdM D c.t.length c.said
 bnd:∀ k,S k≠0→k < w.heap.size
 lft:0≤c.left∧c.left≤1000000
 me:c.me < c.t.length
section
variable {S S':Nat→Nat} {F:Nat→Prop} {w w':World} {p q gp gs:Nat} {sv dv:Value} {c d:CoD}
theorem CorW.mod (h:CorW S w p sv dv q gp gs c) (hm:Mod F w w') (hF:∀ k,1≤S k→S k≤6→¬ F k):CorW S w' p sv dv q gp gs c where
 obj:=h.obj.mod hm (hF p (by rw [h.lab.1];omega) (by rw [h.lab.1];omega))
 lab:=h.lab
 stk:=ints_mod h.stk hm fun k hk=>hF k (by rw [h.sto k hk];omega) (by rw [h.sto k hk];omega)
 sto:=h.sto
 dec:=h.dec.mod hm fun k hk=>hF k (by rw [hk];omega) (by rw [hk];omega)
 tal:=by
  obtain ⟨a,b,D,m,ht⟩:=h.tal
  exact ⟨a,b,D,m,ht.mod hm fun k hk=>hF k (by rw [hk];omega) (by rw [hk];omega)⟩
 prp:=by
  obtain ⟨n,D,h1,h2,h3⟩:=h.prp
  exact ⟨n,D,h1,ownsMap_mod h2 hm (hF gp (by rw [h.lab.2.1];omega) (by rw [h.lab.2.1];omega)),h3⟩
 sad:=by
  obtain ⟨n,D,h1,h2,h3⟩:=h.sad
  exact ⟨n,D,h1,ownsMap_mod h2 hm (hF gs (by rw [h.lab.2.2];omega) (by rw [h.lab.2.2];omega)),h3⟩
 bnd:=fun k hk=>Nat.lt_of_lt_of_le (h.bnd k hk) hm.size
 lft:=h.lft
 me:=h.me
theorem CorW.ext (h:CorW S w p sv dv q gp gs c) (he:Ext w w'):CorW S w' p sv dv q gp gs c:=h.mod (he.mod fun _=>False) fun _ _ _=>id
theorem CorW.relab (h:CorW S w p sv dv q gp gs c) (hs:∀ k,1≤S k→S k≤6→S' k = S k) (hb:∀ k,S' k≠0→k < w.heap.size):CorW S' w p sv dv q gp gs c where
 obj:=h.obj
 lab:=⟨by rw [hs p] <;> rw [h.lab.1] <;> omega,by rw [hs gp] <;> rw [h.lab.2.1] <;> omega,by rw [hs gs] <;> rw [h.lab.2.2] <;> omega⟩
 stk:=h.stk
 sto:=fun k hk=>by have:=h.sto k hk;rw [hs k] <;> omega
 dec:=h.dec.mono fun k hk=>by rw [hs k] <;> omega
 tal:=by
  obtain ⟨a,b,D,m,ht⟩:=h.tal
  exact ⟨a,b,D,m,ht.mono fun k hk=>by rw [hs k] <;> omega⟩
 prp:=h.prp
 sad:=h.sad
 bnd:=hb
 lft:=h.lft
 me:=h.me
theorem CorW.cell (h:CorW S w p sv dv q gp gs c) (hm:Mod (fun k=>k = p) w w') (f:Fs w' p (coRow d sv dv q gp gs)) (e:d.t = c.t∧d.dec = c.dec∧d.T = c.T∧d.prop = c.prop∧d.said = c.said∧d.me = c.me) (hl:0≤d.left∧d.left≤1000000):CorW S w' p sv dv q gp gs d:=by
 obtain ⟨e1,e2,e3,e4,e5,e6⟩:=e
 have hne:∀ {k l:Nat},S k = l→l≠1→¬ k = p:=fun hk hl e=>hl (by rw [← hk,e];exact h.lab.1)
 refine ⟨f,h.lab,by rw [e1];exact ints_mod h.stk hm fun k hk=>hne (h.sto k hk) (by omega),h.sto,by rw [e2];exact h.dec.mod hm fun k hk=>hne hk (by omega), ?_, ?_, ?_,fun k hk=>Nat.lt_of_lt_of_le (h.bnd k hk) hm.size,hl,by rw [e6,e1];exact h.me⟩
 ·obtain ⟨a,b,D,m,ht⟩:=h.tal
  rw [e1,e3]
  exact ⟨a,b,D,m,ht.mod hm fun k hk=>hne hk (by omega)⟩
 ·obtain ⟨n,D,h1,h2,h3⟩:=h.prp
  rw [e4]
  exact ⟨n,D,h1,ownsMap_mod h2 hm (hne h.lab.2.1 (by omega)),h3⟩
 ·obtain ⟨n,D,h1,h2,h3⟩:=h.sad
  rw [e5,e1]
  exact ⟨n,D,h1,ownsMap_mod h2 hm (hne h.lab.2.2 (by omega)),h3⟩
theorem CorW.stpCell (h:CorW S w p sv dv q gp gs c) (hm:Mod (fun k=>k = p) w w'):Stp 1 6 S S w w':=Stp.ofMod hm (fun k e=>by subst e;rw [h.lab.1];omega) h.bnd
theorem CorW.vote (h:CorW S w p sv dv q gp gs c) {X':Nat→Prop} {T':Tab} {N:Nat} (u:Upd (fun k=>S k = 5) X' w w') (ht:Tal X' w' q c.t T' N):∃ S',CorW S' w' p sv dv q gp gs { c with T:=T' }∧Stp 1 6 S S' w w':=by
 refine ⟨fun k=>if k < w.heap.size then S k else if k < w'.heap.size then 5 else 0, ?_,u.mod.mono fun k _ e=>by show 1≤S k∧S k≤6;rw [e];omega,fun k hk=>if_pos hk,fun k hk => ?_⟩
 ·have hs:∀ k l,S k = l→l≠0→(if k < w.heap.size then S k else if k < w'.heap.size then 5 else 0) = l:=fun k l hk hl=>by
   rw [if_pos (h.bnd k (by omega))];exact hk
  have hne:∀ {k l:Nat},S k = l→l≠5→¬ S k = 5:=fun hk hl e=>hl (by omega)
  refine ⟨h.obj.mod u.mod (hne h.lab.1 (by omega)),⟨hs _ _ h.lab.1 (by omega),hs _ _ h.lab.2.1 (by omega),hs _ _ h.lab.2.2 (by omega)⟩,ints_mod h.stk u.mod fun k hk=>hne (h.sto k hk) (by omega),fun k hk=>hs _ _ (h.sto k hk) (by omega),
   (h.dec.mod u.mod fun k hk=>hne hk (by omega)).mono fun k hk=>hs _ _ hk (by omega), ?_, ?_, ?_,fun k hk => ?_,h.lft,h.me⟩
  ·obtain ⟨a,b,D,m,ht⟩:=ht.tight
   have hlt:∀ k,X' k→k < w'.heap.size:=fun k hk=>by
    rcases u.sub k hk with h1 | h1
    ·exact Nat.lt_of_lt_of_le (h.bnd k (by omega)) u.size
    ·exact h1.2
   refine ⟨a,b,D,m,ht.mono fun k hk => ?_⟩
   rcases u.sub k hk with h1 | h1
   ·exact hs k 5 h1 (by omega)
   ·rw [if_neg (by omega),if_pos h1.2]
  ·obtain ⟨n,D,h1,h2,h3⟩:=h.prp
   exact ⟨n,D,h1,ownsMap_mod h2 u.mod (hne h.lab.2.1 (by omega)),h3⟩
  ·obtain ⟨n,D,h1,h2,h3⟩:=h.sad
   exact ⟨n,D,h1,ownsMap_mod h2 u.mod (hne h.lab.2.2 (by omega)),h3⟩
  ·split at hk
   ·exact Nat.lt_of_lt_of_le (h.bnd k hk) u.size
   ·split at hk
    ·rename_i h1;exact h1
    ·exact absurd rfl hk
 ·split at hk
  ·exact Nat.lt_of_lt_of_le (h.bnd k hk) u.size
  ·split at hk
   ·rename_i h1;exact h1
   ·exact absurd rfl hk
theorem CorW.propose (h:CorW S w p sv dv q gp gs c) (hm:Mod (fun k=>k = gp) w w') {n:Nat} {D:DataW Value} (ho:w'.ownsMap Tryz.prog 3 tok gp n D) (hD:PrM D d.prop) (e:d = { c with prop:=d.prop }):CorW S w' p sv dv q gp gs d:=by
 have hne:∀ {k l:Nat},S k = l→l≠2→¬ k = gp:=fun hk hl e=>hl (by rw [← hk,e];exact h.lab.2.1)
 rw [e]
 have e1:({ c with prop:=d.prop }:CoD).t = c.t:=rfl
 refine ⟨h.obj.mod hm (hne h.lab.1 (by omega)),h.lab,ints_mod h.stk hm fun k hk=>hne (h.sto k hk) (by omega),h.sto,h.dec.mod hm fun k hk=>hne hk (by omega), ?_, ?_, ?_,fun k hk=>Nat.lt_of_lt_of_le (h.bnd k hk) hm.size,h.lft,h.me⟩
 ·obtain ⟨a,b,D,m,ht⟩:=h.tal
  exact ⟨a,b,D,m,ht.mod hm fun k hk=>hne hk (by omega)⟩
 ·refine ⟨_,D, ?_,own_tight ho,hD⟩
  refine size_int ho fun x hx hh => ?_
  rw [(hD.2.1 x hx).1] at hh
  have:=hD.2.2 x fun e=>by rw [e] at hh;cases hh
  omega
 ·obtain ⟨n,D,h1,h2,h3⟩:=h.sad
  exact ⟨n,D,h1,ownsMap_mod h2 hm (hne h.lab.2.2 (by omega)),h3⟩
theorem CorW.stpProp (h:CorW S w p sv dv q gp gs c) (hm:Mod (fun k=>k = gp) w w'):Stp 1 6 S S w w':=Stp.ofMod hm (fun k e=>by subst e;rw [h.lab.2.1];omega) h.bnd
theorem CorW.say (h:CorW S w p sv dv q gp gs c) (hm:Mod (fun k=>k = gs) w w') {n:Nat} {D:DataW Value} (ho:w'.ownsMap Tryz.prog 3 tok gs n D) (hD:SdM D c.t.length d.said) (e:d = { c with said:=d.said }):CorW S w' p sv dv q gp gs d:=by
 have hne:∀ {k l:Nat},S k = l→l≠3→¬ k = gs:=fun hk hl e=>hl (by rw [← hk,e];exact h.lab.2.2)
 rw [e]
 refine ⟨h.obj.mod hm (hne h.lab.1 (by omega)),h.lab,ints_mod h.stk hm fun k hk=>hne (h.sto k hk) (by omega),h.sto,h.dec.mod hm fun k hk=>hne hk (by omega), ?_, ?_, ?_,fun k hk=>Nat.lt_of_lt_of_le (h.bnd k hk) hm.size,h.lft,h.me⟩
 ·obtain ⟨a,b,D,m,ht⟩:=h.tal
  exact ⟨a,b,D,m,ht.mod hm fun k hk=>hne hk (by omega)⟩
 ·obtain ⟨n,D,h1,h2,h3⟩:=h.prp
  exact ⟨n,D,h1,ownsMap_mod h2 hm (hne h.lab.2.1 (by omega)),h3⟩
 ·refine ⟨_,D, ?_,own_tight ho,hD⟩
  refine size_int ho fun x hx hh => ?_
  rw [(hD.1.2 x hx).1] at hh
  unfold fat at hh
  split at hh
  ·cases hh
  ·have:=hD.2 x.toNat fun e=>by rw [e] at hh;cases hh
   have:=h.tal
   obtain ⟨a,b,D,m,ht⟩:=this
   have:=ht.st.2.1
   omega
theorem CorW.stpSay (h:CorW S w p sv dv q gp gs c) (hm:Mod (fun k=>k = gs) w w'):Stp 1 6 S S w w':=Stp.ofMod hm (fun k e=>by subst e;rw [h.lab.2.2];omega) h.bnd
theorem CorW.st (h:CorW S w p sv dv q gp gs c):StOk c.t:=by obtain ⟨a,b,D,m,ht⟩:=h.tal;exact ht.st
theorem CorW.ok (h:CorW S w p sv dv q gp gs c):TabOk c.T c.t.length:=by obtain ⟨a,b,D,m,ht⟩:=h.tal;exact ht.ok
end
def Cor (S:Nat→Nat) (w:World) (p:Nat) (c:CoD):Prop := ∃ sv dv q gp gs,CorW S w p sv dv q gp gs c
def acRow (a:AcV):List Value := .int .i64 a.to :: mRow a.m.msg (.slice none 0 0)
theorem acRow_len (a:AcV):(acRow a).length = 14:=rfl
structure TrnW (S:Nat→Nat) (w:World) (tb p:Nat) (kv ov sv dv:Value) (q gp gs:Nat) (kn:List Int) (c:CoD):Prop where
 cor:CorW S w p sv dv q gp gs c
 turn:Fs w tb [.pointer (some ⟨p,0,none⟩),kv,ov]
 ltb:S tb = 7
 out:RowN (fun k=>S k = 8) w 53 14 ov (c.out.map acRow)
 knw:Ints w kv kn
 kns:∀ k,kv.ownBlock = some k→k < w.heap.size∧S k = 0
def Trn (S:Nat→Nat) (w:World) (tb p:Nat) (kv:Value) (kn:List Int) (c:CoD):Prop := ∃ ov sv dv q gp gs,TrnW S w tb p kv ov sv dv q gp gs kn c
section
variable {S S':Nat→Nat} {F:Nat→Prop} {w w':World} {tb p q gp gs:Nat} {kv ov sv dv:Value} {kn:List Int} {c d:CoD}
theorem TrnW.ext (h:TrnW S w tb p kv ov sv dv q gp gs kn c) (he:Ext w w'):TrnW S w' tb p kv ov sv dv q gp gs kn c :=
 ⟨h.cor.ext he,h.turn.ext he,h.ltb,h.out.ext he,h.knw.ext he,fun k hk=>⟨Nat.lt_of_lt_of_le (h.kns k hk).1 he.size,(h.kns k hk).2⟩⟩
theorem Trn.ext (h:Trn S w tb p kv kn c) (he:Ext w w'):Trn S w' tb p kv kn c:=by obtain ⟨a,b,d,e,f,g,h⟩:=h;exact ⟨a,b,d,e,f,g,h.ext he⟩
theorem TrnW.bnd (h:TrnW S w tb p kv ov sv dv q gp gs kn c):∀ k,S k≠0→k < w.heap.size:=h.cor.bnd
theorem TrnW.core (h:TrnW S w tb p kv ov sv dv q gp gs kn c) (s:Stp 1 6 S S' w w') {sv' dv':Value} {q' gp' gs':Nat} (hc:CorW S' w' p sv' dv' q' gp' gs' d) (e:d.out = c.out):TrnW S' w' tb p kv ov sv' dv' q' gp' gs' kn d:=by
 refine ⟨hc,h.turn.mod s.mod (s.off (l:=7) (by omega) h.ltb),by rw [s.same tb (h.bnd tb (by rw [h.ltb];omega))];exact h.ltb, ?_,ints_mod h.knw s.mod fun k hk=>s.off (l:=0) (by omega) (h.kns k hk).2,fun k hk => ?_⟩
 ·rw [e]
  exact (h.out.mod s.mod fun k hk=>s.off (l:=8) (by omega) hk).mono fun k hk=>by rw [s.same k (h.bnd k (by rw [hk];omega))];exact hk
 ·have:=h.kns k hk
  exact ⟨Nat.lt_of_lt_of_le this.1 s.size,by rw [s.same k this.1];exact this.2⟩
theorem TrnW.send (h:TrnW S w tb p kv ov sv dv q gp gs kn c) {w1 w2:World} {v:Value} {a:AcV} (hm1:Mod (fun k=>S k = 8) w w1) (hr:RowN (grow (fun k=>S k = 8) w w1) w1 53 14 v (c.out.map acRow ++ [acRow a])) (hm2:Mod (fun k=>k = tb) w1 w2) (hf:Fs w2 tb [.pointer (some ⟨p,0,none⟩),kv,v]) :
  ∃ S',TrnW S' w2 tb p kv v sv dv q gp gs kn { c with out:=c.out ++ [a] }∧Stp 1 8 S S' w w2:=by
 have htb:tb < w.heap.size:=h.bnd tb (by rw [h.ltb];omega)
 have hb:=h.bnd
 refine ⟨fun k=>if k < w.heap.size then S k else if k < w1.heap.size then 8 else 0, ?_,⟨(hm1.mono (G:=fun k=>1≤S k∧S k≤8) fun k _ e=>by show 1≤S k∧S k≤8;rw [e];omega).trans hm2 fun k _ e=>by have e':k = tb:=e;show 1≤S k∧S k≤8;rw [e',h.ltb];omega,fun k hk=>if_pos hk,fun k hk => ?_⟩⟩
 ·have hs:∀ k l,S k = l→l≠0→(if k < w.heap.size then S k else if k < w1.heap.size then 8 else 0) = l:=fun k l hk hl=>by
   rw [if_pos (hb k (by omega))];exact hk
  have hne8:∀ {k l:Nat},S k = l→l≠8→¬ S k = 8:=fun hk hl e=>hl (by omega)
  have hnet:∀ {k l:Nat},S k = l→l≠7→¬ k = tb:=fun hk hl e=>hl (by rw [← hk,e];exact h.ltb)
  have hco:=(h.cor.mod hm1 fun k h1 h2 e=>by have e':S k = 8:=e;omega).mod hm2 fun k h1 h2 e=>by have e':k = tb:=e;rw [e',h.ltb] at h2;omega
  refine ⟨?_,hf,hs _ _ h.ltb (by omega), ?_,ints_mod (ints_mod h.knw hm1 fun k hk=>hne8 (h.kns k hk).2 (by omega)) hm2 fun k hk=>hnet (h.kns k hk).2 (by omega),fun k hk=>⟨Nat.lt_of_lt_of_le (h.kns k hk).1 (Nat.le_trans hm1.size hm2.size),by rw [if_pos (h.kns k hk).1];exact (h.kns k hk).2⟩⟩
  ·have:=hco.relab (S':=fun k=>if k < w.heap.size then S k else if k < w1.heap.size then 8 else 0) (fun k h1 h2=>hs k _ rfl (by omega)) fun k hk => ?_
   ·exact ⟨this.obj,this.lab,this.stk,this.sto,this.dec,this.tal,this.prp,this.sad,this.bnd,this.lft,this.me⟩
   ·split at hk
    ·exact Nat.lt_of_lt_of_le (hb k hk) (Nat.le_trans hm1.size hm2.size)
    ·split at hk
     ·rename_i h1;exact Nat.lt_of_lt_of_le h1 hm2.size
     ·exact absurd rfl hk
  ·rw [List.map_append,List.map_cons,List.map_nil]
   refine (hr.mod hm2 fun k hk e => ?_).mono fun k hk => ?_
   ·have e':k = tb:=e
    rcases hk with hk | hk
    ·exact hnet hk (by omega) e'
    ·omega
   ·rcases hk with hk | hk
    ·exact hs k 8 hk (by omega)
    ·rw [if_neg (by omega),if_pos hk.2]
 ·split at hk
  ·exact Nat.lt_of_lt_of_le (hb k hk) (Nat.le_trans hm1.size hm2.size)
  ·split at hk
   ·rename_i h1;exact Nat.lt_of_lt_of_le h1 hm2.size
   ·exact absurd rfl hk
end
end Go.Proofs.YtdoeoncmhaihbaaGreat
namespace Go.Proofs.YtdoeoncmhaihbaaGreat
set_option maxHeartbeats 3200000
set_option maxRecDepth 100000
open Go.RowKit
theorem rdV {f:FuncId} {args:Array Value} {w:World} {u:Value} (h:Calls Tryz.prog f args w fun e w'=>e = .returned u∧Ext w w'):Calls Tryz.prog f args w fun e w' => ∃ v',e = .returned v'∧Ext w w'∧Sp.p (.val u) v' w':=by
 refine h.mono ?_
 rintro e w' ⟨rfl,hx⟩
 exact ⟨_,rfl,hx,rfl⟩
theorem runs_leni {o:Oper} {ρ:Operand→Value} {w:World} {v:Value} {l:List Int} (x:Operand) (ho:o.op = .call { callee := .builtin .len,args:=#[x],argTypes:=#[22] }) (hv : ρ x = v) (h:Ints w v l):Runs Tryz.prog o ρ w (.int .i64 l.length):=by
 have:=runs_len Tryz.elI x ho hv h
 rw [i64s_length] at this;exact this
theorem Tryz.stPrep:StN Tryz.prog 67 2 [.int .i64 0, .int .i64 0]:=StN.of (by kernel_rfl) (by kernel_rfl) rfl
theorem Tryz.stRound:StN Tryz.prog 69 10 [.int .i64 0, .int .i64 0, .int .i64 0, .pointer none, .map none, .map none, .int .i64 0, .int .i64 0, .int .i64 0, .int .i64 0]:=StN.of (by kernel_rfl) (by kernel_rfl) rfl
theorem Tryz.stActA:StN Tryz.prog 53 14 (.int .i64 0 :: mZero):=StN.of (by kernel_rfl) (by kernel_rfl) rfl
theorem Set_at {w:World} {g i:Nat} {cs:List Value} {v b m:Int} (f00:Fs w g cs) (hi0:i < cs.length) (hvI:v≤9223372036854775807) :
  Calls Tryz.prog 55 #[.pointer (some ⟨g,i,none⟩), .int .i64 v, .int .i64 b, .int .i64 m] w fun e w'=>e = .returned (.tuple #[])∧∃ w1,Ext w w1∧Mod (fun k=>k = g) w1 w'∧Fs w' g (cs.set i (.int .i64 (pat v b m))):=by
 refine z2rz ?_
 have hX:=Ext.refl w
 replace f00:=hide_ f00
 have hvI':=hide_ hvI
 have hi:=hide_ hi0
 obtain ⟨r,hr0⟩:∃ r,pat v b m = r:=⟨_,rfl⟩
 have hr:=hide_ hr0
 rw [hr0]
 clear hr0 hvI hi0
 go_enter Tryz.func55,Tryz.ntmps55
 go_wp2_with ((first | (go_at_call 71;refine (Patience_any hvI'.out).mono ?_;rintro e w4 ⟨rfl,hx⟩;rw [hr.out];replace hX:=hX.trans hx;clear hx) | refine z6nz ?_ | ((with_reducible refine at_store ?_);refine w_fstore _ _ (u := .int .i64 r) rfl rfl rfl rfl rfl (f00.out.ext hX) hi.out rfl rfl (by kernel_rfl) ?_;intro w6 hmd f2) | fail) <;> (try refine z0z ?_))
 go_end0
 exact Keep.intro ⟨rfl,w4,hX,hmd,f2⟩
theorem Tick_at {w:World} {g i:Nat} {cs:List Value} {x:Int} (f00:Fs w g cs) (hi0:cs[i]? = some (.int .i64 x)) (hxI:x≤9223372036854775807) :
  Calls Tryz.prog 32 #[.pointer (some ⟨g,i,none⟩)] w fun e w'=>e = .returned (.bool (decide (tck x = 0)))∧Mod (fun k=>k = g) w w'∧Fs w' g (cs.set i (.int .i64 (tck x))):=by
 refine z2rz ?_
 replace f00:=hide_ f00
 have hil:=(List.getElem?_eq_some_iff.1 hi0).1
 have hi:=hide_ hi0
 obtain ⟨y,hy0⟩:∃ y,tck x = y:=⟨_,rfl⟩
 obtain ⟨z,hz0⟩:∃ z,max x 1 = z:=⟨_,rfl⟩
 have hz:=hide_ hz0
 have hzy:=hide_ (show z - 1 = y from by rw [← hz0, ← hy0];rfl)
 have hz1:1≤z:=by omega
 have hz2:z≤9223372036854775807:=by omega
 rw [hy0]
 have hl2:=hide_ (show (cs.set i (.int .i64 y))[i]? = some (.int .i64 y) from by rw [List.getElem?_set_self hil])
 have hil':=hide_ hil
 obtain ⟨q,hq0⟩:∃ q,decide (y = 0) = q:=⟨_,rfl⟩
 have hq:=hide_ hq0
 rw [hq0]
 have hqb:(y == 0) = q:=by rw [← hq0];by_cases h:y = 0 <;> simp [h]
 clear hy0 hz0 hxI hq0 hi0 hil
 go_enter Tryz.func32,Tryz.ntmps32
 go_wp2_with ((first | refine z6nz ?_ | ((with_reducible refine at_load ?_);refine w_fload _ rfl rfl rfl f2 hl2.out (agg_of (by kernel_rfl)) ?_) | ((with_reducible refine at_load ?_);refine w_fload _ rfl rfl rfl f00.out hi.out (agg_of (by kernel_rfl)) ?_) | ((with_reducible refine at_bi ?_);refine w_max _ _ z hz.out.symm rfl rfl rfl rfl ?_) | ((with_reducible refine at_store ?_);refine w_fstore _ _ (u := .int .i64 y) rfl rfl rfl rfl (by rw [← hzy.out];rfl) f00.out hil'.out rfl rfl (by kernel_rfl) ?_;intro w6 hmd f2) | fail) <;> (try refine z0z ?_))
 go_ret
 exact Keep.intro ⟨rfl,hmd,f2⟩
theorem Index_core {S:Nat→Nat} {w:World} {p q gp gs:Nat} {sv dv:Value} {c:CoD} (h:CorW S w p sv dv q gp gs c) :
  Calls Tryz.prog 16 #[.pointer (some ⟨p,0,none⟩)] w fun e w'=>e = .returned (.int .i64 (c.dec.length:Nat))∧Ext w w':=by
 refine z2rz ?_
 have hC:=hide_ h
 have hD:=hide_ h.dec.sl
 have hX:=Ext.refl w
 clear h
 go_enter Tryz.func16,Tryz.ntmps16
 go_wp2_with ((first | refine z47z ?_ | ((with_reducible refine at_bi ?_);refine i_len _ rfl rfl rfl hD.out ?_) | fail) <;> (try refine z0z ?_))
 go_ret
 exact z4pz
theorem Step_core {S:Nat→Nat} {w:World} {p q gp gs:Nat} {sv dv:Value} {c:CoD} (h:CorW S w p sv dv q gp gs c) :
  Calls Tryz.prog 17 #[.pointer (some ⟨p,0,none⟩)] w fun e w'=>e = .returned (.int .i64 c.step)∧Ext w w':=by
 refine z2rz ?_
 have hC:=hide_ h
 have hX:=Ext.refl w
 clear h
 go_enter Tryz.func17,Tryz.ntmps17
 go_wp2_with ((first | refine zsz ?_ | refine zhz ?_ | ((with_reducible refine at_load ?_);(try refine w_yes _ _ _ rfl rfl rfl ?_);refine w_fload _ rfl rfl rfl hC.out.obj rfl (agg_of (by kernel_rfl)) ?_) | fail) <;> (try refine z0z ?_))
 go_ret
 exact z4pz
theorem Decisions_core {S:Nat→Nat} {w:World} {p q gp gs:Nat} {sv dv:Value} {c:CoD} (h:CorW S w p sv dv q gp gs c) (hl0:c.dec.length * 8≤140737488355328) :
  Calls Tryz.prog 14 #[.pointer (some ⟨p,0,none⟩)] w fun e w' => ∃ u,e = .returned u∧OwnI w.heap.size w' u c.dec∧Ext w w':=by
 refine z2rz ?_
 have hC:=hide_ h
 have hl:=hide_ hl0
 have hD:=hide_ (show Ints w dv c.dec from h.dec.sl)
 clear h hl0
 go_enter Tryz.func14,Tryz.ntmps14
 go_wp2_with ((first | (go_at_call 20;refine (IClone_any hD.out hl.out).mono ?_;rintro e w2 ⟨v2,rfl,o2,hX⟩) | refine z47z ?_ | fail) <;> (try refine z0z ?_))
 go_ret
 exact Keep.intro ⟨v2,rfl,o2,hX⟩
theorem isOver_core {S:Nat→Nat} {w:World} {p q gp gs:Nat} {sv dv:Value} {c:CoD} (h:CorW S w p sv dv q gp gs c) {r:Bool} (hr:decide (1000 < c.dec.length) = r) :
  Calls Tryz.prog 30 #[.pointer (some ⟨p,0,none⟩)] w fun e w'=>e = .returned (.bool r)∧Ext w w':=by
 refine z2rz ?_
 have hC:=hide_ h
 obtain ⟨n,hn0⟩:∃ n,((c.dec.length:Nat):Int) = n:=⟨_,rfl⟩
 have hn:=hide_ hn0
 have ht:decide (1000 < n) = r:=by rw [← hr, ← hn0];exact decide_eq_decide.2 (by omega)
 have hX:=Ext.refl w
 clear h hr hn0
 go_enter Tryz.func30,Tryz.ntmps30
 go_wp2_with (first | (go_at_call 16;refine (Index_core (hC.out.ext hX)).mono ?_;rintro e w2 ⟨rfl,hx⟩;rw [hn.out];replace hX:=hX.trans hx;clear hx) | fail)
 go_ret
 exact z4pz
theorem leader_core {S:Nat→Nat} {w:World} {p q gp gs:Nat} {sv dv:Value} {c:CoD} {v:Int} (h:CorW S w p sv dv q gp gs c) {l:Int} (hl0:c.leader v = l) :
  Calls Tryz.prog 40 #[.pointer (some ⟨p,0,none⟩), .int .i64 v] w fun e w'=>e = .returned (.int .i64 l)∧Ext w w':=by
 refine z2rz ?_
 have hC:=hide_ h
 have hl:=hide_ (show ldr ((c.dec.length:Nat):Int) v ((c.t.length:Nat):Int) = l from hl0)
 have hX:=Ext.refl w
 clear h hl0
 go_enter Tryz.func40,Tryz.ntmps40
 go_wp2
 refine zmz ?_;intro wd hxd;have HC:=hC.out.ext hxd;have F0:=HC.obj;have ST:=HC.stk
 refine Ph.rest 0 10 (by kernel_rfl) ?_
 refine z1tz ?_
 refine LinL.step (s:=(.val (.int .i64 (c.dec.length:Nat)))) [(5,some 0)] rfl (by kernel_rfl) (op_calls 16 #[(.tmp 5)] #[32] (fun σ => #[.pointer (some ⟨p,0,none⟩)]) rfl rfl (fun _ _=>rfl) fun σ w' hx hg=>⟨by have h5 : σ.tmps.getD 5 undef = .pointer (some ⟨p,0,none⟩):=hg.1;simp only [List.map_toArray,List.map_cons,List.map_nil,Act.eval,h5],rdV (Index_core (HC.ext hx))⟩) ?_
 refine LinL.st [(1,none)] rfl (opmv (.int .i64 v)) ?_
 refine z1tz ?_
 refine LinL.st [(8,some 0)] rfl opnl ?_
 refine LinL.st [(9,some 0)] rfl (opfb 1 1 1 p) ?_
 refine LinL.st [(10,some 0)] rfl (opld (sv) F0) ?_
 refine LinL.step (s:=(.val (.int .i64 (c.t.length:Nat)))) [(11,some 0)] rfl (by kernel_rfl) (op_runs rfl fun σ w' hx hg=>⟨_,runs_leni (ρ := σ.eval) (w:=w') (.tmp 11) rfl hg.1 (ST.ext hx),rfl⟩) ?_
 refine LinL.step (s:=(.val (.int .i64 l))) [(6,some 6),(7,some 5),(12,some 0)] rfl (by kernel_rfl) (op_calls 56 #[(.tmp 6),(.tmp 7),(.tmp 12)] #[3,3,3] (fun σ => #[.int .i64 (c.dec.length:Nat), .int .i64 v, .int .i64 (c.t.length:Nat)]) rfl rfl (fun _ _=>rfl) fun σ w' hx hg=>⟨by have h6 : σ.tmps.getD 6 undef = .int .i64 (c.dec.length:Nat):=hg.1;have h7 : σ.tmps.getD 7 undef = .int .i64 v:=hg.2.1;have h12 : σ.tmps.getD 12 undef = .int .i64 (c.t.length:Nat):=hg.2.2.1;simp only [List.map_toArray,List.map_cons,List.map_nil,Act.eval,h6,h7,h12],rdV (by rw [← hl.out];exact Leader_any)⟩) ?_
 refine LinL.st [(13,some 0)] rfl (opcp (.val (.int .i64 l))) ?_
 intro wN hxN
 refine z15z ?_
 replace hX:=hX.trans (hxd.trans hxN);clear hxd hxN HC F0 ST
 go_wp2
 go_ret
 exact z4pz
theorem wait_core {S:Nat→Nat} {w:World} {p q gp gs:Nat} {sv dv:Value} {c:CoD} (h:CorW S w p sv dv q gp gs c) (hv0:c.view≤9223372036854775807) :
  Calls Tryz.prog 38 #[.pointer (some ⟨p,0,none⟩)] w fun e w'=>e = .returned (.tuple #[])∧CorW S w' p sv dv q gp gs { c with left:=pat c.view c.base c.most }∧Stp 1 6 S S w w':=by
 refine z2rz ?_
 have hC:=hide_ h
 have hv:=hide_ hv0
 clear h hv0
 go_enter Tryz.func38,Tryz.ntmps38
 go_wp2
 refine zmz ?_;intro wd hxd;have HC:=hC.out.ext hxd;have F0:=HC.obj
 refine Ph.gate 0 17 (by kernel_rfl) ?_
 refine z1tz ?_
 refine LinL.st [(2,some 0)] rfl opnl ?_
 refine LinL.st [(3,some 0)] rfl (opfb 6 6 6 p) ?_
 refine LinL.st [(4,some 0)] rfl (opfb 2 2 8 p) ?_
 refine z1tz ?_
 refine LinL.st [(6,some 0)] rfl opnl ?_
 refine LinL.st [(7,some 0)] rfl (opfb 6 6 6 p) ?_
 refine LinL.st [(8,some 0)] rfl (opfb 0 0 6 p) ?_
 refine LinL.st [(9,some 0)] rfl (opld (.int .i64 c.view) F0) ?_
 refine z1tz ?_
 refine LinL.st [(11,some 0)] rfl opnl ?_
 refine LinL.st [(12,some 0)] rfl (opfb 2 2 2 p) ?_
 refine LinL.st [(13,some 0)] rfl (opld (.int .i64 c.base) F0) ?_
 refine z1tz ?_
 refine LinL.st [(15,some 0)] rfl opnl ?_
 refine LinL.st [(16,some 0)] rfl (opfb 3 3 3 p) ?_
 refine LinL.st [(17,some 0)] rfl (opld (.int .i64 c.most) F0) ?_
 intro wN hxN
 refine z15z ?_
 refine wpOp_call 55 #[.pointer (some ⟨p,8,none⟩), .int .i64 c.view, .int .i64 c.base, .int .i64 c.most] 19 rfl rfl rfl rfl (fun _ _=>rfl) (by simp only [List.map_toArray,List.map_cons,List.map_nil,Act.eval];rfl) ?_
 refine (Set_at (F0.ext hxN) (by simp [coRow]) hv.out).mono ?_;rintro e w4 ⟨rfl,w1,hx1,hm1,f1⟩;refine ⟨_,rfl, ?_⟩
 refine z0z ?_
 show Ph Tryz.prog _ _ 18 _ _
 refine Ph.rest 18 0 (by kernel_rfl) ?_
 intro wM hxM
 refine zuz ?_
 go_wp2
 go_end0
 have hx:=hxd.trans (hxN.trans hx1)
 have hC1:=hC.out.ext hx
 have hr:=pat_range c.view c.base c.most
 have hC2:=hC1.cell (d:={ c with left:=pat c.view c.base c.most }) hm1 f1 ⟨rfl,rfl,rfl,rfl,rfl,rfl⟩ (by show 0≤pat c.view c.base c.most∧pat c.view c.base c.most≤1000000;omega)
 exact Keep.intro ⟨rfl,hC2.ext hxM,((Stp.ofExt hx hC.out.bnd).trans (hC1.stpCell hm1)).trans (Stp.ofExt hxM hC2.bnd)⟩
theorem mostPrepared_core {S:Nat→Nat} {w:World} {p q gp gs:Nat} {sv dv:Value} {c:CoD} {v:Int} (h:CorW S w p sv dv q gp gs c) (hv0:In64 v) {r:Option Int} (hr0:c.T.mostOf c.t 4 v = r) :
  Calls Tryz.prog 64 #[.pointer (some ⟨p,0,none⟩), .int .i64 v] w fun e w'=>e = .returned (.tuple #[.int .i64 (r.getD 0), .bool r.isSome])∧Ext w w':=by
 refine z2rz ?_
 have hC:=hide_ h
 have hv:=hide_ hv0
 have hr:=hide_ hr0
 have hX:=Ext.refl w
 clear h hv0 hr0
 go_enter Tryz.func64,Tryz.ntmps64
 go_wp2_with ((first | (go_at_call 74;refine (TMost_any (hC.out.ext hX).tal (by omega) (In64.nat (n:=4) (by omega)) hv.out hr.out).mono ?_;rintro e w2 ⟨rfl,hx⟩;replace hX:=hX.trans hx;clear hx) | refine zsz ?_ | refine z38z ?_ | ((with_reducible refine at_load ?_);(try refine w_yes _ _ _ rfl rfl rfl ?_);refine w_fload _ rfl rfl rfl (hC.out.ext hX).obj rfl (agg_of (by kernel_rfl)) ?_) | fail) <;> (try refine z0z ?_))
 go_ret2
 exact z4pz
def shown (c:CoD) (x u:Int):Bool:=decide (u = -1∨c.T.mostOf c.t 4 u = some x)
theorem isShown_core {S:Nat→Nat} {w:World} {p q gp gs:Nat} {sv dv:Value} {c:CoD} {x u:Int} (h:CorW S w p sv dv q gp gs c) (hu0:In64 u) {rr:Bool} (hrr0:shown c x u = rr) :
  Calls Tryz.prog 62 #[.pointer (some ⟨p,0,none⟩), .agg #[.int .i64 x, .int .i64 u]] w fun e w'=>e = .returned (.bool rr)∧Ext w w':=by
 subst hrr0
 refine z2rz ?_
 have hC:=hide_ h
 have hu:=hide_ hu0
 obtain ⟨r,hr0⟩:∃ r,c.T.mostOf c.t 4 u = r:=⟨_,rfl⟩
 have hr:=hide_ hr0
 have hX:=Ext.refl w
 by_cases h1:u = -1
 ·have t1:(u == -1) = true:=by simp [h1]
  have hs:=hide_ (show shown c x u = true from decide_eq_true (.inl h1))
  clear h hu0 hr0 h1
  go_enter Tryz.func62,Tryz.ntmps62
  go_wp2_with ((first | (refine z3iz ?_;intro g3 w1 hg3 hx f3;replace hX:=hX.trans hx;clear hx) | refine z19z ?_ | refine zrz ?_ | fail) <;> (try refine z0z ?_))
  go_ret
  exact z55z
 have t1:(u == -1) = false:=by simp [h1]
 cases r with
 | none =>
  have hs:=hide_ (show shown c x u = false from decide_eq_false fun q=>by rcases q with q | q;exact h1 q;rw [hr0] at q;cases q)
  clear h hu0 hr0 h1
  go_enter Tryz.func62,Tryz.ntmps62
  go_wp2_with ((first | go_big_skip | (refine z3iz ?_;intro g3 w1 hg3 hx f3;replace hX:=hX.trans hx;clear hx) | (go_at_call 64;refine (mostPrepared_core (hC.out.ext hX) hu.out hr.out).mono ?_;rintro e w2 ⟨rfl,hx⟩;replace f3:=f3.ext hx;replace hX:=hX.trans hx;clear hx) | refine z19z ?_ | refine zrz ?_ | fail) <;> (try refine z0z ?_))
  go_ret
  exact z55z
 | some y =>
  obtain ⟨b,hb0⟩:∃ b,(y == x) = b:=⟨_,rfl⟩
  have t2:(y == x) = b:=hb0
  have hs:=hide_ (show shown c x u = b from by
   subst hb0
   unfold shown
   rw [hr0]
   by_cases e:y = x <;> simp [h1,e])
  clear h hu0 hr0 h1 hb0
  go_enter Tryz.func62,Tryz.ntmps62
  go_wp2_with ((first | go_big_skip | (refine z3iz ?_;intro g3 w1 hg3 hx f3;replace hX:=hX.trans hx;clear hx) | (go_at_call 64;refine (mostPrepared_core (hC.out.ext hX) hu.out hr.out).mono ?_;rintro e w2 ⟨rfl,hx⟩;simp only [Option.getD_some,Option.isSome_some];replace f3:=f3.ext hx;replace hX:=hX.trans hx;clear hx) | refine z19z ?_ | refine zrz ?_ | fail) <;> (try refine z0z ?_))
  go_ret
  exact z55z
theorem lockAllows_core {S:Nat→Nat} {w:World} {p q gp gs:Nat} {sv dv:Value} {c:CoD} {x u:Int} (h:CorW S w p sv dv q gp gs c) {r:Bool} (hr0:c.free x u = r) :
  Calls Tryz.prog 63 #[.pointer (some ⟨p,0,none⟩), .agg #[.int .i64 x, .int .i64 u]] w fun e w'=>e = .returned (.bool r)∧Ext w w':=by
 subst hr0
 refine z2rz ?_
 have hC:=hide_ h
 have hX:=Ext.refl w
 by_cases h1:c.lw≤u
 ·have t1:decide (c.lw≤u) = true:=decide_eq_true h1
  have hs:=hide_ (show c.free x u = true from decide_eq_true (.inr h1))
  clear h h1
  go_enter Tryz.func63,Tryz.ntmps63
  go_wp2_with ((first | (refine z3iz ?_;intro g3 w1 hg3 hx f3;replace hX:=hX.trans hx;clear hx) | fail) <;> (try refine z0z ?_))
  refine zmz ?_;intro wd hxd;have F0:=hC.out.obj.ext (hX.trans hxd);have F3:=f3.ext hxd
  refine Ph.rest 0 21 (by kernel_rfl) ?_
  refine z1tz ?_
  refine z3jz ?_
  refine LinL.step (s:=(.val (.bool true))) [(10,some 2),(12,some 0)] rfl (by kernel_rfl) (op_runs rfl fun σ w' hx hg=>⟨(.bool true),by have h10 : σ.tmps.getD 10 undef = .int .i64 c.lw:=hg.1;have h12 : σ.tmps.getD 12 undef = .int .i64 u:=hg.2.1;unfold Runs execOp;simp [Act.eval,h10,h12,go_sem,t1],rfl⟩) ?_
  refine LinL.st [(13,some 0)] rfl (opcp (.val (.bool true))) ?_
  refine LinL.step (s := .val undef) [(0,none),(14,some 0)] rfl (by kernel_rfl) (op_no (reads:=[(0,none)]) 9 14 0 false rfl rfl rfl) ?_
  refine LinL.step (s := .val undef) [(15,some 0),(14,some 1)] rfl (by kernel_rfl) (op_no (reads:=[(15,some 0)]) 9 14 1 false rfl rfl rfl) ?_
  refine LinL.step (s := .val undef) [(16,some 0),(14,some 2)] rfl (by kernel_rfl) (op_no (reads:=[(16,some 0)]) 9 14 2 false rfl rfl rfl) ?_
  refine LinL.step (s := .val undef) [(17,some 0),(14,some 3)] rfl (by kernel_rfl) (op_no (reads:=[(17,some 0)]) 9 14 3 false rfl rfl rfl) ?_
  refine LinL.step (s := .val undef) [(18,some 0),(14,some 4)] rfl (by kernel_rfl) (op_no (reads:=[(18,some 0)]) 9 14 4 false rfl rfl rfl) ?_
  refine LinL.step (s := .val undef) [(19,some 0),(14,some 5)] rfl (by kernel_rfl) (op_no (reads:=[(19,some 0)]) 9 14 5 false rfl rfl rfl) ?_
  refine LinL.step (s := .val undef) [(3,none),(14,some 6)] rfl (by kernel_rfl) (op_no (reads:=[(3,none)]) 9 14 6 false rfl rfl rfl) ?_
  refine LinL.step (s := .val undef) [(21,some 0),(14,some 7)] rfl (by kernel_rfl) (op_no (reads:=[(21,some 0)]) 9 14 7 false rfl rfl rfl) ?_
  refine LinL.step (s := .val undef) [(20,some 2),(22,some 0),(14,some 8)] rfl (by kernel_rfl) (op_no (reads:=[(20,some 2),(22,some 0)]) 9 14 8 false rfl rfl rfl) ?_
  refine LinL.step (s:=(.val (.bool true))) [(14,some 9),(23,some 0)] rfl (by kernel_rfl) (op_runs rfl fun σ w' hx hg=>⟨_,runs_pick_t (ρ := σ.eval) (w:=w') (.tmp 14) (.const (.bool true)) (.tmp 23) rfl hg.1 rfl,rfl⟩) ?_
  refine LinL.st [(24,some 0)] rfl (opcp (.val (.bool true))) ?_
  intro wN hxN
  refine z15z ?_
  replace hX:=hX.trans (hxd.trans hxN)
  go_wp2
  go_ret
  exact z55z
 ·have t1:decide (c.lw≤u) = false:=decide_eq_false h1
  obtain ⟨qb,hb0⟩:∃ b,(c.lv == x) = b:=⟨_,rfl⟩
  have t2:(c.lv == x) = qb:=hb0
  have hs:=hide_ (show c.free x u = qb from by
   subst hb0
   unfold CoD.free
   by_cases e:c.lv = x <;> simp [e,h1])
  clear h h1 hb0
  go_enter Tryz.func63,Tryz.ntmps63
  go_wp2_with ((first | (refine z3iz ?_;intro g3 w1 hg3 hx f3;replace hX:=hX.trans hx;clear hx) | fail) <;> (try refine z0z ?_))
  refine zmz ?_;intro wd hxd;have F0:=hC.out.obj.ext (hX.trans hxd);have F3:=f3.ext hxd
  refine Ph.rest 0 21 (by kernel_rfl) ?_
  refine z1tz ?_
  refine z3jz ?_
  refine LinL.step (s:=(.val (.bool false))) [(10,some 2),(12,some 0)] rfl (by kernel_rfl) (op_runs rfl fun σ w' hx hg=>⟨(.bool false),by have h10 : σ.tmps.getD 10 undef = .int .i64 c.lw:=hg.1;have h12 : σ.tmps.getD 12 undef = .int .i64 u:=hg.2.1;unfold Runs execOp;simp [Act.eval,h10,h12,go_sem,t1],rfl⟩) ?_
  refine LinL.st [(13,some 0)] rfl (opcp (.val (.bool false))) ?_
  refine LinL.st [(0,none),(14,some 0)] rfl (op_yes (reads:=[(0,none)]) 9 14 0 false rfl rfl rfl (opmv (.pointer (some ⟨p,0,none⟩)))) ?_
  refine LinL.st [(15,some 0),(14,some 1)] rfl (op_yes (reads:=[(15,some 0)]) 9 14 1 false rfl rfl rfl opnl) ?_
  refine LinL.st [(16,some 0),(14,some 2)] rfl (op_yes (reads:=[(16,some 0)]) 9 14 2 false rfl rfl rfl (opfb 6 6 6 p)) ?_
  refine LinL.st [(17,some 0),(14,some 3)] rfl (op_yes (reads:=[(17,some 0)]) 9 14 3 false rfl rfl rfl (opfb 6 6 12 p)) ?_
  refine LinL.st [(18,some 0),(14,some 4)] rfl (op_yes (reads:=[(18,some 0)]) 9 14 4 false rfl rfl rfl (opfb 0 0 12 p)) ?_
  refine LinL.st [(19,some 0),(14,some 5)] rfl (op_yes (reads:=[(19,some 0)]) 9 14 5 false rfl rfl rfl (opld (.int .i64 c.lv) F0)) ?_
  refine LinL.st [(3,none),(14,some 6)] rfl (op_yes (reads:=[(3,none)]) 9 14 6 false rfl rfl rfl (opfo 0 0 0 g3)) ?_
  refine LinL.st [(21,some 0),(14,some 7)] rfl (op_yes (reads:=[(21,some 0)]) 9 14 7 false rfl rfl rfl (opld (.int .i64 x) F3)) ?_
  refine LinL.step (s:=(.val (.bool qb))) [(20,some 2),(22,some 0),(14,some 8)] rfl (by kernel_rfl) (op_yes (reads:=[(20,some 2),(22,some 0)]) 9 14 8 false rfl rfl rfl (op_runs rfl fun σ w' hx hg=>⟨(.bool qb),by have h20 : σ.tmps.getD 20 undef = .int .i64 c.lv:=hg.1;have h22 : σ.tmps.getD 22 undef = .int .i64 x:=hg.2.1;unfold Runs execOp;simp [Act.eval,h20,h22,go_sem,t2],rfl⟩)) ?_
  refine LinL.step (s:=(.val (.bool qb))) [(14,some 9),(23,some 0)] rfl (by kernel_rfl) (op_runs rfl fun σ w' hx hg=>⟨_,runs_pick_f (ρ := σ.eval) (w:=w') (.tmp 14) (.const (.bool true)) (.tmp 23) rfl hg.1 hg.2.1,rfl⟩) ?_
  refine LinL.st [(24,some 0)] rfl (opcp (.val (.bool qb))) ?_
  intro wN hxN
  refine z15z ?_
  replace hX:=hX.trans (hxd.trans hxN)
  go_wp2
  go_ret
  exact z55z
def dagB (ops:Array Oper):Bool:=(List.range ops.size).all fun i=>match ops[i]? with | some o=>(deps o).all fun j=>decide (j < i) | none=>true
theorem dag_of {ops:Array Oper} (h:dagB ops = true) {i:Nat} {o:Oper} (ho:ops[i]? = some o):∀ j∈deps o,j < i:=fun j hj=>by
 have hi:=(Array.getElem?_eq_some_iff.1 ho).1
 simp only [dagB,List.all_eq_true,List.mem_range] at h
 have h1:=h i hi
 rw [ho] at h1
 simp only [List.all_eq_true,decide_eq_true_eq] at h1
 exact h1 j hj
section
variable {P:Program} {ops:Array Oper} {Q:Exit→Act→World→Prop}
theorem wpAny_inv (hdag:dagB ops = true) (Inv:Array Bool→Act→World→Prop)
  (step:∀ (listed:Array Bool) (a:Act) (w:World) (i:Nat) (o:Oper),listed.size = ops.size→Inv listed a w→ops[i]? = some o→listed[i]? = some false→(∀ j∈deps o,listed[j]? = some true)→(∀ (k:Nat) (ok:Oper),ops[k]? = some ok→i∈deps ok→listed[k]? = some false) →
   wpOp P ops Q i (Inv (listed.setIfInBounds i true)) a w)
  (fin:∀ (listed:Array Bool) (a:Act) (w:World),(∀ i,i < ops.size→listed[i]? = some true)→Inv listed a w→Q .normal a w) :
  ∀ (f:Nat) (listed:Array Bool) (a:Act) (w:World),listed.size = ops.size→listed.toList.count false = f→Closed ops listed→Inv listed a w→wpAny P .any ops Q f listed a w:=by
 intro f
 induction f with
 | zero =>
  intro listed a w hls hcnt hcl hI
  have hall:∀ i,i < ops.size→listed[i]? = some true:=fun i hi=>by
   have hm:false ∉ listed.toList:=List.count_eq_zero.1 hcnt
   have hlt:i < listed.size:=by omega
   rw [Array.getElem?_eq_getElem hlt]
   cases hb:listed[i] with
   | true=>rfl
   | false=>exact absurd (by rw [← hb];exact Array.getElem_mem_toList hlt) hm
  refine ⟨?_,fin listed a w hall hI⟩
  cases hr:Region.ready .any ops listed with
  | nil=>rfl
  | cons i r =>
   obtain ⟨o,ho,hu,_⟩:=(ready_iffL ops hls i).1 (by rw [hr];exact List.mem_cons_self ..)
   rw [hall i (Array.getElem?_eq_some_iff.1 ho).1] at hu;cases hu
 | succ f ih =>
  intro listed a w hls hcnt hcl hI
  refine ⟨fun hnil => ?_,fun i hi => ?_⟩
  ·refine fin listed a w (fun i => ?_) hI
   induction i using Nat.strongRecOn with
   | _ i ihi =>
    intro hi
    have ho:ops[i]? = some ops[i]:=Array.getElem?_eq_getElem hi
    have hlt:i < listed.size:=by omega
    cases hb:listed[i] with
    | true=>rw [Array.getElem?_eq_getElem hlt,hb]
    | false =>
     have:i∈Region.ready .any ops listed:=(ready_iffL ops hls _).2 ⟨_,ho,by rw [Array.getElem?_eq_getElem hlt,hb],fun j hj=>by
      have h1:=dag_of hdag ho j hj
      exact ihi j h1 (by omega)⟩
     rw [hnil] at this;cases this
  ·obtain ⟨o,ho,hun,hdeps⟩:=(ready_iffL ops hls i).1 hi
   have his:=(Array.getElem?_eq_some_iff.1 ho).1
   have hil:i < listed.size:=by omega
   have hlater:∀ (k:Nat) (ok:Oper),ops[k]? = some ok→i∈deps ok→listed[k]? = some false:=fun k ok hk hd=>by
    have hks:k < listed.size:=by rw [hls];exact (Array.getElem?_eq_some_iff.1 hk).1
    cases hb:listed[k] with
    | false=>rw [Array.getElem?_eq_getElem hks,hb]
    | true =>
     have:=hcl k ok hk (by rw [Array.getElem?_eq_getElem hks,hb]) _ hd
     rw [hun] at this;cases this
   have hcl':Closed ops (listed.setIfInBounds i true):=by
    intro k ok hk hl j hj
    by_cases hki:k = i
    ·subst hki;rw [ho] at hk;cases hk
     have hne:k≠j:=by have:=dag_of hdag ho j hj;omega
     rw [Array.getElem?_setIfInBounds_ne hne];exact hdeps j hj
    ·rw [Array.getElem?_setIfInBounds_ne (Ne.symm hki)] at hl
     have:=hcl k ok hk hl j hj
     by_cases hij:i = j
     ·subst hij;rw [hun] at this;cases this
     ·rw [Array.getElem?_setIfInBounds_ne hij];exact this
   have hcnt':(listed.setIfInBounds i true).toList.count false = f:=by
    have h1:listed.toList[i]? = some false:=by simpa using hun
    have:=count_set_true _ _ h1
    rw [Array.toList_setIfInBounds];omega
   exact wpOp_mono (fun a' w' hI'=>ih _ a' w' (by simpa using hls) hcnt' hcl' hI') (step listed a w i o hls hI ho hun hdeps hlater)
theorem wp_region_inv {id:Nat} {a:Act} {w:World} (hm:P.follows .mixedOrders = true) (hdag:dagB ops = true)
  (h:∀ w1,Ext w w1→∃ Inv:Array Bool→Act→World→Prop,Inv (Array.replicate ops.size false) a w1 ∧
   (∀ (listed:Array Bool) (a:Act) (w:World) (i:Nat) (o:Oper),listed.size = ops.size→Inv listed a w→ops[i]? = some o→listed[i]? = some false→(∀ j∈deps o,listed[j]? = some true)→(∀ (k:Nat) (ok:Oper),ops[k]? = some ok→i∈deps ok→listed[k]? = some false) →
    wpOp P ops Q i (Inv (listed.setIfInBounds i true)) a w) ∧
   (∀ (listed:Array Bool) (a:Act) (w:World),(∀ i,i < ops.size→listed[i]? = some true)→Inv listed a w→Q .normal a w)):(Code.region id ops true).wp P Q a w:=by
 obtain ⟨Inv,h1,h2,h3⟩:=h { w with drawn:=w.drawn + 1 } (Ext.refl w).drew
 refine wp_region_any hm (wpAny_inv hdag Inv h2 h3 _ _ a _ (by simp) (by simp) (fun i o hi hl => ?_) h1)
 have:=(Array.getElem?_eq_some_iff.1 hi).1
 simp [this] at hl
end
theorem put_slots (a:Act) (d:Tmp) (v:Value) (hd:d < a.tmps.size):(fun t=>(a.put (some d) v).tmps.getD t undef) = fun t=>if t = d then v else a.tmps.getD t undef:=by
 funext t
 rw [Array.getD_eq_getD_getElem?,Act.put_get]
 by_cases h:t = d
 ·subst h;simp [hd]
 ·rw [if_neg (Ne.symm h),if_neg h,Array.getD_eq_getD_getElem?]
theorem put_listed (listed:Array Bool) (i:Nat) (hi:i < listed.size):(fun j=>(listed.setIfInBounds i true)[j]? = some true) = fun j=>j = i∨listed[j]? = some true:=by
 funext j
 by_cases h:j = i
 ·subst h;simp [hi]
 ·rw [Array.getElem?_setIfInBounds_ne (Ne.symm h)];simp [h]
end Go.Proofs.YtdoeoncmhaihbaaGreat
