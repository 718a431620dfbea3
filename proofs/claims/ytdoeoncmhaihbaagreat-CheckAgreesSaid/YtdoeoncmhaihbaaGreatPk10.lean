/- For which value more than two thirds voted; which value is committed. · Which value is committed: of the least view. · Ranges over functions: what a walk knows of operations that it knows in a round, too; a call of yield; the statement by a contract of the iterator that tells which blocks the rounds may turn, so that an iterator may itself range over another one. · The contracts of slices.Backward and of the views above another one, as functions that are ranged over. · The views above another one, as a function that is ranged over. · The view in which enough are already. · The set of those who have voted from a view on; a result that lies in a block. -/
import Derived.Test.YtdoeoncmhaihbaaGreatPk09
import Derived.Test.YtdoeoncmhaihbaaGreatPk03
import Derived.RangeFuncNested
import Derived.RangeFuncLeaves
import Derived.OrdersIn
import Derived.TacticsInMore
import Derived.LoopIn
import Derived.OwnWalkIn
namespace Go.Proofs.YtdoeoncmhaihbaaGreat
set_option maxHeartbeats 3200000
set_option maxRecDepth 100000
open Go.RowKit
def Sp.ints (L:List Int):Sp := .any (fun v w=>Ints w v L) fun _ _ _ h he=>h.ext he
theorem picks_i64s (p:Nat→Bool) {n:Nat} (hn:n≤7):I64s (picks p n)∧(picks p n).length * 8≤140737488351232 :=
 ⟨fun x hx=>by have:=picks_wf p n x hx;omega,by have:=picks_len p n;omega⟩
theorem whoR {X:Nat→Prop} {w:World} {p:Nat} {t:List Int} {T:Tab} {N:Nat} {k v x:Int} (h:Tal X w p t T N) (hN:N≤2100) (hk:In64 k) (hv:In64 v) {L:List Int} (hL:T.who t.length k v x = L) :
  Calls Tryz.prog 90 #[.pointer (some ⟨p,0,none⟩), .int .i64 k, .int .i64 v, .int .i64 x] w fun e w' => ∃ u,e = .returned u∧Ext w w'∧(Sp.ints L).p u w':=by
 refine (TWho_any h hN hk hv hL).mono ?_
 rintro e w' ⟨u,rfl,o,hx⟩
 exact ⟨u,rfl,hx,o.ints⟩
theorem mostR {w:World} {sv u:Value} {t L:List Int} (h:Asked w sv u t L) {q:Bool} (hq:most t L = q):Calls Tryz.prog 89 #[sv,u] w fun e w' => ∃ z,e = .returned z∧Ext w w'∧Sp.p (.val (.bool q)) z w':=by
 refine (Most_of h).mono ?_
 rintro e w' ⟨rfl,hx⟩
 exact ⟨_,rfl,hx,by rw [hq];rfl⟩
theorem TMost_any {X:Nat→Prop} {w:World} {p:Nat} {t:List Int} {T:Tab} {N:Nat} {k v:Int} (h0:Tal X w p t T N) (hN:N≤2100) (hk0:In64 k) (hv0:In64 v) {r:Option Int} (hr0:T.mostOf t k v = r) :
  Calls Tryz.prog 74 #[.pointer (some ⟨p,0,none⟩), .int .i64 k, .int .i64 v] w fun e w'=>e = .returned (.tuple #[.int .i64 (r.getD 0), .bool r.isSome])∧Ext w w':=by
 refine z2rz ?_
 have hT:=hide_ h0
 obtain ⟨sv,g,D,m,h⟩:=h0
 have f0:=hide_ h.obj
 have hst:=hide_ h.stk
 have hok:=hide_ h.st
 have hlen:=hide_ h.st.2.1
 have htab:=hide_ h.ok
 have hk:=hide_ hk0
 have hv:=hide_ hv0
 have hr:=hide_ hr0
 have hX:=Ext.refl w
 obtain ⟨L,hL0⟩:∃ L,T.all t.length k v = L:=⟨_,rfl⟩
 have hL:=hide_ (show ∀ x,x∈L ↔ ∃ i:Nat,i < t.length∧T.any k v i = true∧x = (i:Int) from by subst hL0;exact fun x=>mem_picks)
 have hLl:=hide_ (show L.length≤7 from by subst hL0;have:=picks_len (T.any k v) t.length;have:=h.st.2.1;show (picks _ _).length≤7;omega)
 rw [← hr0]
 clear h hk0 hv0 hr0
 go_enter Tryz.func74,Tryz.ntmps74
 go_wp2_with ((first | (go_at_call 80;refine (TAll_any (hT.out.ext hX) hN hk.out hv.out hL0).mono ?_;rintro e w2 ⟨ua,rfl,oa,hx⟩;replace hX:=hX.trans hx;clear hx) | ((with_reducible refine at_bi ?_);refine i_len _ rfl rfl rfl oa.ints ?_) | fail) <;> (try refine z0z ?_))
 have hoa:=hide_ oa.ints
 have hX2:=hide_ hX
 clear oa hL0
 go_loopw [17] (fun u17 wr => ∃ i:Nat,u17 = .int .i64 i∧i≤L.length∧Hid (∀ (j:Nat) (y:Int),j < i→fat (T k v) (L.getD j 0) = some y→¬ T.Mst t k v y)∧Ext w2 wr) (fun i _=>L.length - (intOf i).toNat)
 case atStart=>exact ⟨0,rfl,Nat.zero_le _,(fun j y h=>absurd h (Nat.not_lt_zero _)),Ext.refl _⟩
 case round =>
  clear hX
  obtain ⟨i,rfl,hi,hno,hX⟩:=hrel
  by_cases hlt0:i < L.length
  ·have hlt:=hide_ hlt0
   have hi7:i≤7:=by have:=hLl.out;omega
   obtain ⟨nd,hnd,hany,hli0⟩:=(hL.out L[i]).1 (List.getElem_mem hlt0)
   have hli:=hide_ hli0
   obtain ⟨y,hy0⟩:=Option.isSome_iff_exists.1 hany
   have hvote:=hide_ (show fat (T k v) (nd:Int) = some y from by rw [fat_nat];exact hy0)
   have hj:=hide_ (In64.nat (n:=nd) (by have:=hlen.out;omega))
   obtain ⟨q,hq0⟩:∃ q,most t (T.who t.length k v y) = q:=⟨_,rfl⟩
   have hq:=hide_ hq0
   have hyb:=hide_ (htab.out _ _ _ _ hy0).2.2.2
   have tl:decide (i < L.length) = true:=decide_eq_true hlt0
   have hdone:=hide_ (show q = true→T.mostOf t k v = some y from fun e=>(Tab.mostOf_iff hok.out).2 (show most t (T.who t.length k v y) = true from hq0.trans e))
   have hmore:=hide_ (show q = false→∀ (j:Nat) (z:Int),j < i + 1→fat (T k v) (L.getD j 0) = some z→¬ T.Mst t k v z from fun e j z hj hz=>by
    by_cases hji:j < i
    ·exact hno.out j z hji hz
    ·obtain rfl:j = i:=by omega
     have e1:L.getD j 0 = (nd:Int):=(getD_at L hlt0).trans hli0
     have hz':fat (T k v) (nd:Int) = some z:=e1 ▸ hz
     have hz2:=hy0.symm.trans ((fat_nat (T k v) nd).symm.trans hz')
     injection hz2 with hz2
     subst hz2
     intro hm
     have hm':most t (T.who t.length k v y) = true:=hm
     rw [hq0,e] at hm';cases hm')
   have hws:=hide_ (picks_i64s (T.has k v y) hlen.out)
   clear hno hnd hany hli0 hy0 hq0 hlt0
   go_wp2_with ((first | (go_at_call 37;refine (TVote_any (hT.out.ext (hX2.out.trans hX)) hk.out hv.out hj.out hvote.out).mono ?_;rintro e w3 ⟨rfl,hw3⟩;replace hw3:=hw3.symm;subst hw3) | (refine z4nz ?_;intro ad had;replace had:=had.trans (congrArg (fun z=>some (Value.int .i64 z)) hli.out)) | refine z5bz ?_ | fail) <;> (try refine z0z ?_))
   refine zmz ?_;intro wd hxd;have F0:=f0.out.ext (hX2.out.trans (hX.trans hxd));have S0:=hst.out.ext (hX2.out.trans (hX.trans hxd))
   refine Ph.rest 0 10 (by kernel_rfl) ?_
   refine z46z ?_
   refine LinL.step (s:=(.val (.pointer (some ⟨p,0,none⟩)))) [(29,some 0)] rfl (by kernel_rfl) (op_runs rfl fun σ w' hx hg=>⟨_,runs_nil (ρ := σ.eval) (w:=w') (.tmp 29) rfl hg.1,rfl⟩) ?_
   refine LinL.step (s:=(.val (.pointer (some ⟨p,0,none⟩)))) [(30,some 0)] rfl (by kernel_rfl) (op_runs rfl fun σ w' hx hg=>⟨_,runs_field (ρ := σ.eval) (w:=w') Tryz.stTal (.tmp 30) p 0 rfl hg.1 (by omega),rfl⟩) ?_
   refine LinL.step (s:=(.val (sv))) [(31,some 0)] rfl (by kernel_rfl) (op_runs rfl fun σ w' hx hg=>⟨_,runs_fload (ρ := σ.eval) (w:=w') (.tmp 31) rfl hg.1 (agg_of (by kernel_rfl) _) (F0.ext hx) rfl,rfl⟩) ?_
   refine z46z ?_
   refine LinL.step (s:=(.val (.int .i64 k))) [(1,none)] rfl (by kernel_rfl) (op_out 1 (.int .i64 k) rfl (.inl rfl) rfl) ?_
   refine LinL.step (s:=(.val (.int .i64 v))) [(2,none)] rfl (by kernel_rfl) (op_out 2 (.int .i64 v) rfl (.inl rfl) rfl) ?_
   refine LinL.step (s:=(.val (.int .i64 y))) [(10,none)] rfl (by kernel_rfl) (op_out 10 (.int .i64 y) rfl (.inl rfl) rfl) ?_
   refine LinL.step (s:=(Sp.ints (T.who t.length k v y))) [(33,some 3),(34,some 2),(35,some 1),(36,some 0)] rfl (by kernel_rfl) (op_calls 90 #[(.tmp 33),(.tmp 34),(.tmp 35),(.tmp 36)] #[63,3,3,3] (fun σ => #[.pointer (some ⟨p,0,none⟩), .int .i64 k, .int .i64 v, .int .i64 y]) rfl rfl (fun _ _=>rfl) fun σ w' hx hg=>⟨by have h33 : σ.tmps.getD 33 undef = .pointer (some ⟨p,0,none⟩):=hg.1;have h34 : σ.tmps.getD 34 undef = .int .i64 k:=hg.2.1;have h35 : σ.tmps.getD 35 undef = .int .i64 v:=hg.2.2.1;have h36 : σ.tmps.getD 36 undef = .int .i64 y:=hg.2.2.2.1;simp only [List.map_toArray,List.map_cons,List.map_nil,Act.eval,h33,h34,h35,h36],whoR (hT.out.ext (hX2.out.trans (hX.trans (hxd.trans hx)))) hN hk.out hv.out rfl⟩) ?_
   refine LinL.step (s:=(.val (.bool q))) [(32,some 5),(37,some 0)] rfl (by kernel_rfl) (op_calls 89 #[(.tmp 32),(.tmp 37)] #[22,22] (fun σ => #[sv,σ.tmps.getD 37 undef]) rfl rfl (fun _ _=>rfl) fun σ w' hx hg=>⟨by have h32 : σ.tmps.getD 32 undef = sv:=hg.1;simp only [List.map_toArray,List.map_cons,List.map_nil,Act.eval,h32],mostR ⟨hok.out,S0.ext hx,hg.2.1,hws.out.1,hws.out.2⟩ hq.out⟩) ?_
   intro wN hxN
   refine z4fz ?_
   intro q37 hq37
   refine z0z ?_
   replace hX:=hX.trans (hxd.trans hxN)
   clear hxd hxN F0 S0
   cases q
   ·go_wp2
    go_roundw
    case rel=>exact ⟨i + 1,by go_num,by have:=hlt.out;omega,hmore.out rfl,hX⟩
    case measure=>have:=hlt.out;simp [intOf];omega
   ·have hd:=hide_ (hdone.out rfl)
    go_wp2
    go_ret2
    exact Keep.intro ⟨by rw [hd.out];rfl,hX2.out.trans hX⟩
  ·have hfin:=hide_ (show T.mostOf t k v = none from by
    cases hm:T.mostOf t k v with
    | none=>rfl
    | some y =>
     exfalso
     have hM:=(Tab.mostOf_iff hok.out).1 hm
     obtain ⟨nd,hnd,hy⟩:=hM.one hok.out
     have hmem:(nd:Int)∈L:=(hL.out _).2 ⟨nd,hnd,by unfold Tab.any;rw [hy];rfl,rfl⟩
     obtain ⟨j,hj,he⟩:=List.getElem_of_mem hmem
     exact hno.out j y (by omega) (((getD_at L hj).trans he) ▸ ((fat_nat (T k v) nd).trans hy)) hM)
   have tl:decide (i < L.length) = false:=decide_eq_false hlt0
   clear hlt0 hno
   go_wp2
   go_ret2
   exact Keep.intro ⟨by rw [hfin.out];rfl,hX2.out.trans hX⟩
theorem Rise.getElem_lt {l:List Int} (h:Rise l) {i j:Nat} (hi:i < l.length) (hj:j < l.length) (hij:i < j):l[i] < l[j]:=List.pairwise_iff_getElem.1 h i j hi hj hij
theorem most_no {T:Tab} {t:List Int} (ht:StOk t) {k w:Int} (h:∀ i,T k w i = none):T.mostOf t k w = none:=by
 cases hm:T.mostOf t k w with
 | none=>rfl
 | some x =>
  obtain ⟨i,_,hi⟩:=((Tab.mostOf_iff ht).1 hm).one ht
  rw [h i] at hi;cases hi
theorem commAt_no {T:Tab} {t:List Int} (ht:StOk t) {j:Nat} (h:∀ i,T 5 j i = none):T.commAt t j = none:=by
 unfold Tab.commAt;rw [most_no ht h]
def commV:Option Int→Option Int
 | some x=>if x = -1 then none else some x
 | none=>none
theorem commAt_of {T:Tab} {t:List Int} {j:Nat} {r:Option Int} (h:T.mostOf t 5 j = r):T.commAt t j = commV r:=by
 subst h
 unfold Tab.commAt commV
 cases T.mostOf t 5 j <;> rfl
theorem comm_none {T:Tab} {t:List Int} (h:∀ j:Nat,j≤1000→T.commAt t j = none):T.commOf t = none:=by
 unfold Tab.commOf
 rw [List.findSome?_eq_none_iff]
 exact fun j hj=>h j (by have:=List.mem_range.1 hj;omega)
theorem comm_v {T:Tab} {t:List Int} (ht:StOk t) {N:Nat} {V:List Int} (hV:Vws T N V) {i:Nat} (hno:∀ j,j < i→T.commAt t (V.getD j 0).toNat = none) {a:Nat} (ha:∀ hi:i < V.length,(a:Int) < V[i]):T.commAt t a = none:=by
 by_cases hv:∃ n,T 5 (a:Int) n≠none
 ·obtain ⟨n,hn⟩:=hv
  obtain ⟨j,hj,he⟩:=List.getElem_of_mem (hV.all _ _ _ hn)
  have hji:j < i:=by
   rcases Nat.lt_or_ge j i with h | h
   ·exact h
   ·exfalso
    have h1:=ha (by omega)
    rcases Nat.lt_or_eq_of_le h with h2 | h2
    ·have:=hV.rise.getElem_lt (by omega) hj h2;omega
    ·subst h2;omega
  have:=hno j hji
  rw [getD_at V hj,he] at this
  exact this
 ·exact commAt_no ht fun n=>by
   cases hq:T 5 (a:Int) n with
   | none=>rfl
   | some x=>exact absurd ⟨n,by rw [hq];simp⟩ hv
theorem TComm_any {X:Nat→Prop} {w:World} {p:Nat} {t:List Int} {T:Tab} {N:Nat} (h0:Tal X w p t T N) (hN:N≤2100) {r0:Option Int} (hr0:T.commOf t = r0) :
  Calls Tryz.prog 58 #[.pointer (some ⟨p,0,none⟩)] w fun e w'=>e = .returned (.tuple #[.int .i64 (r0.getD 0), .bool r0.isSome])∧Ext w w':=by
 refine z2rz ?_
 have hT:=hide_ h0
 have hok:=hide_ h0.st
 obtain ⟨sv,g,D,m,hTw0⟩:=h0
 have hTw:=hide_ hTw0
 have hV0:=hTw0.vws
 obtain ⟨V,hVe⟩:∃ V,vwsOf m = V:=⟨_,rfl⟩
 rw [hVe] at hV0
 have h5:=hide_ (show In64 5 from by unfold In64;omega)
 have hX:=Ext.refl w
 rw [← hr0]
 clear hTw0 hr0
 go_enter Tryz.func58,Tryz.ntmps58
 go_wp2_with ((first | (go_at_call 73;refine (views_any hTw.out hN).mono ?_;rintro e w2 ⟨ua,rfl,oa,hx⟩;rw [hVe] at oa;replace hX:=hX.trans hx;clear hx) | ((with_reducible refine at_bi ?_);refine i_len _ rfl rfl rfl oa.ints ?_) | fail) <;> (try refine z0z ?_))
 have hV:=hide_ hV0
 have hoa:=hide_ oa.ints
 have hX2:=hide_ hX
 have hVl:=hide_ (show V.length≤1001 from hV0.len)
 clear oa hV0
 go_loopw [11] (fun u11 wr => ∃ i:Nat,u11 = .int .i64 i∧i≤V.length∧Hid (∀ j:Nat,j < i→T.commAt t (V.getD j 0).toNat = none)∧Ext w2 wr) (fun i _=>V.length - (intOf i).toNat)
 case atStart=>exact ⟨0,rfl,Nat.zero_le _,(fun j h=>absurd h (Nat.not_lt_zero _)),Ext.refl _⟩
 case round =>
  clear hX
  obtain ⟨i,rfl,hi,hno,hX⟩:=hrel
  by_cases hlt0:i < V.length
  ·have hlt:=hide_ hlt0
   have hi7:i≤1001:=by have:=hVl.out;omega
   have hfit:=hV.out.fit V[i] (List.getElem_mem hlt0)
   obtain ⟨n,hn0⟩:∃ n:Nat,V[i] = (n:Int):=⟨V[i].toNat,by omega⟩
   have hvi:=hide_ hn0
   have hn1:=hide_ (show n≤1000 from by omega)
   have hn64:=hide_ (In64.nat (n:=n) (by omega))
   obtain ⟨r,hr1⟩:∃ r,T.mostOf t 5 n = r:=⟨_,rfl⟩
   have hr:=hide_ hr1
   have tl:decide (i < V.length) = true:=decide_eq_true hlt0
   have hat:=hide_ (commAt_of hr1)
   have hdone:=hide_ (show ∀ x,T.commAt t n = some x→T.commOf t = some x from fun x hx=>Tab.commOf_first hn1.out hx fun a ha=>comm_v hok.out hV.out hno.out fun hl=>by
    have:V[i] = (n:Int):=hvi.out
    omega)
   have hmore:=hide_ (show T.commAt t n = none→∀ j:Nat,j < i + 1→T.commAt t (V.getD j 0).toNat = none from fun e j hj=>by
    by_cases hji:j < i
    ·exact hno.out j hji
    ·have hji':j = i:=by omega
     subst hji'
     have e1:V.getD j 0 = (n:Int):=(getD_at V hlt0).trans hvi.out
     rw [e1];simpa using e)
   clear hfit hn0 hr1 hlt0 hno
   cases r with
   | none =>
    have hm:=hide_ (hmore.out hat.out)
    go_wp2_with ((first | go_big_skip | (go_at_call 74;refine (TMost_any (hT.out.ext (hX2.out.trans hX)) hN h5.out hn64.out hr.out).mono ?_;rintro e w3 ⟨rfl,hx⟩;replace hX:=hX.trans hx;clear hx) | (refine z4nz ?_;intro ad had;replace had:=had.trans (congrArg (fun z=>some (Value.int .i64 z)) hvi.out)) | refine z5bz ?_ | fail) <;> (try refine z0z ?_))
    go_roundw
    case rel=>exact ⟨i + 1,by go_num,by have:=hlt.out;omega,hm.out,hX⟩
    case measure=>have:=hlt.out;simp [intOf];omega
   | some x =>
    cases c1:(x != -1)
    ·have hm:=hide_ (hmore.out (hat.out.trans (if_pos (by simpa using c1))))
     go_wp2_with ((first | go_big_skip | (go_at_call 74;refine (TMost_any (hT.out.ext (hX2.out.trans hX)) hN h5.out hn64.out hr.out).mono ?_;rintro e w3 ⟨rfl,hx⟩;replace hX:=hX.trans hx;clear hx) | (refine z4nz ?_;intro ad had;replace had:=had.trans (congrArg (fun z=>some (Value.int .i64 z)) hvi.out)) | refine z5bz ?_ | fail) <;> (try refine z0z ?_))
     go_roundw
     case rel=>exact ⟨i + 1,by go_num,by have:=hlt.out;omega,hm.out,hX⟩
     case measure=>have:=hlt.out;simp [intOf];omega
    ·have hd:=hide_ (hdone.out x (hat.out.trans (if_neg (by simpa using c1))))
     go_wp2_with ((first | go_big_skip | (go_at_call 74;refine (TMost_any (hT.out.ext (hX2.out.trans hX)) hN h5.out hn64.out hr.out).mono ?_;rintro e w3 ⟨rfl,hx⟩;replace hX:=hX.trans hx;clear hx) | (refine z4nz ?_;intro ad had;replace had:=had.trans (congrArg (fun z=>some (Value.int .i64 z)) hvi.out)) | refine z5bz ?_ | fail) <;> (try refine z0z ?_))
     go_ret2
     exact Keep.intro ⟨by rw [hd.out];rfl,hX2.out.trans hX⟩
  ·have hfin:=hide_ (show T.commOf t = none from comm_none fun a _=>comm_v hok.out hV.out hno.out fun hl=>absurd hl hlt0)
   have tl:decide (i < V.length) = false:=decide_eq_false hlt0
   clear hlt0 hno
   go_wp2
   go_ret2
   exact Keep.intro ⟨by rw [hfin.out];rfl,hX2.out.trans hX⟩
def Fr (r:Option Nat):Fence:={ Fence.wide with round:=r }
def noOut (Q:Exit→Act→World→Prop):Exit→Act→World→Prop
 | .outgrown,_,_=>False
 | e,a,w=>Q e a w
theorem noOut_n {Q:Exit→Act→World→Prop} {a:Act} {w:World} (h:Q .normal a w):noOut Q .normal a w:=h
def isDefer (o:Oper):Bool:=match o.op with | .defer _=>true | _=>false
def noDefers (l:List Oper):Bool:=l.all fun o => !isDefer o
theorem not_defer {o:Oper} (h:isDefer o = false):∀ c,o.op≠.defer c:=fun c e=>by simp [isDefer,e] at h
section
variable {P:Program} {r:Option Nat} {n:Nat} {ops:Array Oper} {Q:Exit→Act→World→Prop} {a:Act} {w:World} {o:Oper}
theorem callsIn_fr {f:FuncId} {args:Array Value} {R:Ending→World→Prop} (h:Calls P f args w R):CallsIn (Fr r) n P f args w R :=
 show CallsIn Fence.wide n P f args w R from callsIn_wide.2 h
theorem calls_fr {f:FuncId} {args:Array Value} {R:Ending→World→Prop} (h:CallsIn (Fr r) n P f args w R):Calls P f args w R :=
 callsIn_wide.1 (show CallsIn Fence.wide n P f args w R from h)
theorem roundIn_fr {m l:Nat} {f:FuncId} {tmps:Array Value} {assign body:Code} {R:Ending→World→Prop} (h:RoundIn Fence.wide m P l f tmps assign body w R):RoundIn (Fr r) n P l f tmps assign body w R :=
 ⟨trivial,fun c cs _=>h.2 c cs (room_wide _)⟩
theorem roundIn_wide {m l:Nat} {f:FuncId} {tmps:Array Value} {assign body:Code} {R:Ending→World→Prop} (h:RoundIn (Fr r) m P l f tmps assign body w R):RoundIn Fence.wide n P l f tmps assign body w R :=
 ⟨trivial,fun c cs _=>h.2 c cs (show Fence.wide.room _ from room_wide _)⟩
theorem rowsIn_fr {row:String} {args:Array Value} {R:Value→World→Prop} (h:Rows P row args w R):RowsIn (Fr r) n P row args w R :=
 fun c cs _=>let ⟨v,w',hr,hs⟩:=h c cs; ⟨v,w',hr,(show StepsIn (Machine.fenced P Fence.wide) P _ _ from stepsIn_wide.2 hs)⟩
theorem opIn {K:Act→World→Prop} (hd:isDefer o = false) (h:o.wp P a w K (noOut Q)):o.wpIn (Fr r) n P a w K Q:=by
 refine ⟨fun _ _=>trivial, ?_⟩
 rw [Oper.semAt_eq _ _ _ (not_defer hd)]
 unfold Oper.wp at h
 generalize (execOp a.eval o).run P w = res at h
 cases res with
 | ok x w' =>
  cases x with
  | value v=>exact h
  | skip=>exact h
  | defer d=>exact h
  | enter f args =>
   refine ⟨fun hs=>by simp [Fr,Fence.wide] at hs,(callsIn_fr h).mono fun e w'' he => ?_⟩
   cases e with
   | returned v=>exact he
   | panicked c=>exact he
   | outgrown=>obtain ⟨_,_,hf⟩:=he;exact hf.elim
  | row row args=>exact ⟨fun hs=>by simp [Fr,Fence.wide] at hs,rowsIn_fr h⟩
  | _=>exact h.elim
 | halt x w' =>
  cases x with
  | panic v=>exact h
  | _=>exact h.elim
theorem listIn:∀ {l:List Oper} {a:Act} {w:World},noDefers l = true→wpList P ops (noOut Q) l a w→wpListIn (Fr r) n P ops Q l a w
 | [],_,_,_,h=>h
 | o :: l,a,w,hd,h=>by
  simp only [noDefers,List.all_cons,Bool.and_eq_true,Bool.not_eq_true'] at hd
  unfold wpList at h
  unfold wpListIn
  split
  ·rename_i hw
   rw [if_pos hw] at h
   rcases h with h | ⟨_,_,_,h⟩
   ·exact Oper.wpIn_mono (fun a w hr=>listIn (l:=l) (by simpa [noDefers] using hd.2) hr) (opIn hd.1 h)
   ·exact h.elim
  ·rename_i hw
   rw [if_neg hw] at h
   exact ⟨fun _ _=>trivial,listIn (l:=l) (by simpa [noDefers] using hd.2) h⟩
theorem anyIn {md:Region.Mode} (hd:noDefers ops.toList = true):∀ (fuel:Nat) (listed:Array Bool) (a:Act) (w:World),wpAny P md ops (noOut Q) fuel listed a w→wpAnyIn (Fr r) n P md ops Q fuel listed a w
 | 0,_,_,_,h=>h
 | fuel + 1,listed,a,w,h=>by
  refine ⟨h.1,fun i hi => ?_⟩
  have h1:=h.2 i hi
  unfold wpOp at h1
  unfold wpOpIn
  cases ho:ops[i]? with
  | none=>rw [ho] at h1;exact anyIn hd fuel _ _ _ h1
  | some o =>
   rw [ho] at h1
   simp only at h1 ⊢
   split
   ·rename_i hw
    rw [if_pos hw] at h1
    rcases h1 with h1 | ⟨_,_,_,h1⟩
    ·have hdo:isDefer o = false:=by
      have:=List.all_eq_true.1 hd o (by have:=Array.mem_of_getElem? ho;simpa using this)
      simpa using this
     exact Oper.wpIn_mono (fun a w hr=>anyIn hd fuel _ a w hr) (opIn hdo h1)
    ·exact h1.elim
   ·rename_i hw
    rw [if_neg hw] at h1
    exact ⟨fun _ _=>trivial,anyIn hd fuel _ _ _ h1⟩
theorem region_in {id:Nat} {l:List Oper} (hd:noDefers l = true) (h:wpList P l.toArray (noOut Q) l a w):(Code.region id l.toArray false).wpIn (Fr r) n P Q a w:=wpIn_region_lit (listIn hd h)
theorem region_phx_in {id:Nat} (hm:P.follows .mixedOrders = true) (hd:noDefers ops.toList = true) (h:∀ w1,Ext w w1→Ph P ops (noOut Q) 0 a w1):(Code.region id ops true).wpIn (Fr r) n P Q a w:=by
 refine wpIn_region_any hm ?_
 have h1:=h _ (Ext.refl w).drew
 unfold Ph at h1
 have e:doneTo ops 0 = Array.replicate ops.size false:=by
  apply Array.ext
  ·simp [doneTo]
  ·intro i h1 h2;simp [doneTo]
 rw [e] at h1
 exact anyIn hd _ _ _ _ h1
theorem w_yield0 {rest:List Oper} (x:Operand) {xs:Array Operand} {ts:Array TypeId} {l m:Nat} {args:Array Value} {R:Ending→World→Prop} (hgd:o.guard = none) (ho:o.op = .call { callee := .value x,args:=xs,argTypes:=ts })
  (hx:a.eval x = .func (.yield l) #[] #[]) (hxs:xs.map a.eval = args) (h:YieldAt Fence.wide m P l args w R) (k:∀ e W',R e W'→∃ v,e = .returned v∧wpListIn (Fr r) n P ops Q rest (a.put o.dst v) W'):wpListIn (Fr r) n P ops Q (o :: rest) a w:=by
 obtain ⟨fn,tmps,assign,body,hy,hR⟩:=h
 unfold wpListIn
 rw [if_pos (by simp [Region.wanted,hgd])]
 refine ⟨fun _ _=>trivial, ?_⟩
 rw [Oper.semAt_eq _ _ _ (fun c e=>by rw [ho] at e;cases e)]
 have hrun:(execOp a.eval o).run P w = .ok (.round l fn tmps assign body) w:=by
  unfold execOp
  simp [ho,resolve,hx,hxs,invoke,Deferred.ofValue,hy]
 rw [hrun]
 refine ⟨fun hs=>by simp [Fr,Fence.wide] at hs,(roundIn_fr hR).mono fun e W' he => ?_⟩
 obtain ⟨v,rfl,hk⟩:=k e W' he
 exact hk
theorem wi_yes {rest:List Oper} {F:Fence} (g t:Nat) (b:Bool) (hgd:o.guard = some (g,b)) (hd:(ops[g]?).bind (·.dst) = some t)
  (hv:a.tmps.getD t undef = .bool b) (h:wpListIn F n P ops Q (⟨o.dst,o.op,o.type,o.pos,o.after,none⟩ :: rest) a w):wpListIn F n P ops Q (o :: rest) a w:=by
 have hy:=yielded_of (ops:=ops) hd hv
 unfold wpListIn at h ⊢
 rw [if_pos (by simp [Region.wanted])] at h
 rw [if_pos (by simp [Region.wanted,hgd,hy])]
 exact h
end
theorem Mod.putObj (w:World) (b:Nat) (o:Obj):Mod (fun k=>k = b) w (w.putObj b o) :=
 ⟨rfl,rfl,rfl,by simp,fun k _ hk=>World.putObj_heap_other hk⟩
theorem Mod.below {F:Nat→Prop} {w w':World} {B:Nat} (h:Mod F w w') (hB:B≤w.heap.size) (hF:∀ k,F k→B≤k):Below B w w' :=
 ⟨h.os,h.tape,h.output,h.size,fun k hk=>h.block k (by omega) fun hf=>by have:=hF k hf;omega⟩
def Seq (P:Program) (g:Nat) (lb:Array Value) (xs:List (Array Value)) (G:Nat→Prop) (w:World):Prop :=
 ∀ (l:Nat) (J Jx:Nat→World→Prop) (W:World),Ext w W→(∀ k A B,J k A→Below W.heap.size A B→J k B)→(∀ k A B,Jx k A→Below W.heap.size A B→Jx k B) →
  (∀ (k:Nat) (hk:k < xs.length) (W1:World),W.heap.size≤W1.heap.size→J k W1→YieldAt Fence.wide 0 P l xs[k] W1 fun e W' =>
   Mod (fun b=>G b∨(w.heap.size≤b∧b < W.heap.size)) W1 W'∧((e = .returned (.bool true)∧J (k + 1) W')∨(e = .returned (.bool false)∧Jx (k + 1) W'))) →
  J 0 W→Calls P g (#[.func (.yield l) #[] #[]] ++ lb) W fun e W'=>(∃ v,e = .returned v)∧(J xs.length W'∨∃ k,k≤xs.length∧Jx k W')
def seqPost (G:Nat→Prop) (I:Nat→World→Prop) (Ix:Code→Nat→World→Prop) (k:Nat) (W:World):Exit→Act→World→Prop
 | .normal,_,W'=>Mod G W W'∧I (k + 1) W'
 | .ret,_,W'=>Mod G W W'∧Ix .ret (k + 1) W'
 | .exit id,_,W'=>Mod G W W'∧Ix (.exit id) (k + 1) W'
 | .goto t,_,W'=>Mod G W W'∧Ix (.goto t) (k + 1) W'
 | .panic _,_,_=>False
 | .outgrown,_,_=>False
theorem wp_rangeSeq {P:Program} {n:Nat} {g:Operand} {ps:Array Tmp} {assign body:Code} {Q:Exit→Act→World→Prop} {a:Act} {w w0:World} {gf:Nat} {lb:Array Value} {xs:List (Array Value)} {G G1:Nat→Prop}
  (hg:a.eval g = .func (.func gf) #[] lb) (eg:∀ args w,(callFunc gf args).run P w = .ok (.enter gf args) w) (hseq:Seq P gf lb xs G w0) (hb0:Ext w0 w) (hps:∀ x∈xs,x.size = ps.size)
  (hG:∀ b,G1 b→b < w.heap.size∧(G b∨w0.heap.size≤b))
  (I:Nat→World→Prop) (Ix:Code→Nat→World→Prop) (hI:∀ k A B,I k A→Below w.heap.size A B→I k B) (hIx:∀ c k A B,Ix c k A→Below w.heap.size A B→Ix c k B) (h0:I 0 w) (a₁:Nat→Act)
  (hassign:∀ (l k:Nat) (hk:k < xs.length) (W:World) (K:Act→World→Prop),K (a₁ k) W →
   assign.wpIn (Fr (some l)) n P (Exit.then K (fun _ _ _=>False)) { tmps:=(ps.zip xs[k]).foldl (fun t (p,v)=>t.setIfInBounds p v) a.tmps,defers:=[] } W)
  (hbody:∀ (l k:Nat) (_:k < xs.length) (W:World),w.heap.size≤W.heap.size→I k W→body.wpIn (Fr (some l)) n P (seqPost G1 I Ix k W) (a₁ k) W)
  (hdone:∀ (D:Nat) (W:World),w.heap.size≤D→I xs.length W→W.heap[D]? = some (.deferred (some []))→Q .normal { a with defers:={ target := .collected D,args:=#[] } :: a.defers } W)
  (hstop:∀ (D:Nat) (c:Code) (k:Nat) (W:World),w.heap.size≤D→k≤xs.length→Ix c k W→W.heap[D]? = some (.deferred (some []))→c.wpIn (Fr none) n P Q { a with defers:={ target := .collected D,args:=#[] } :: a.defers } W) :
  (Code.rangeFunc g ps assign body).wpIn (Fr none) n P Q a w:=by
 refine wpIn_rangeFunc ?_
 intro fn hfn
 show ∃ l mark w₁ d w₁' f args w₂,(Instr.enterLoop fn a.tmps ps assign body none).run P w = _∧_
 obtain ⟨rec,hrec⟩:∃ rec:LoopState→Option Code→Loop,rec = fun st pe=>{ state:=st,pending:=pe,fn,tmps:=a.tmps,params:=ps,assign,body,defers:=w.heap.size }:=⟨_,rfl⟩
 obtain ⟨W1,hW1⟩:∃ W1,(w.alloc (.deferred (some []))).alloc (.loop (rec .ready none)) = W1:=⟨_,rfl⟩
 have hsz:W1.heap.size = w.heap.size + 2:=by rw [← hW1];simp
 have hL1:W1.heap[w.heap.size + 1]? = some (.loop (rec .ready none)):=by
  rw [← hW1];have:=World.alloc_heap_new (w.alloc (.deferred (some []))) (.loop (rec .ready none));rwa [World.size_alloc] at this
 have hK1:W1.heap[w.heap.size]? = some (.deferred (some [])):=by
  rw [← hW1];exact (Below.heap_alloc _ _ _ (by simp)).trans (World.alloc_heap_new w _)
 have hx1:Ext w W1:=by rw [← hW1];exact ((Ext.refl w).alloc _).alloc _
 refine ⟨w.heap.size + 1, [{ target := .collected w.heap.size,args:=#[] }],W1, { target := .fn (.func gf) lb,args:=#[.func (.yield (w.heap.size + 1)) #[] #[]] },W1,gf,
  #[.func (.yield (w.heap.size + 1)) #[] #[]] ++ lb,W1, ?_, ?_, ?_, ?_,fun hs=>by simp [Fr,Fence.wide] at hs, ?_⟩
 ·rw [← hW1,hrec];exact run_enterLoop_outer _ _ _ _ _
 ·simp only [resolve,hg]
  simp [go_sem]
 ·intro _ _;trivial
 ·simp [invoke,go_sem,eg]
 ·have keep:∀ {A B:World} {k:Nat} {o:Obj},k < w.heap.size + 2→A.heap[k]? = some o→Below W1.heap.size A B→B.heap[k]? = some o:=fun hk ho hb=>(hb.block _ (by omega)).trans ho
  refine callsIn_fr (Calls.mono (hseq (w.heap.size + 1)
   (fun k W=>I k W∧W.heap[w.heap.size + 1]? = some (.loop (rec .ready none))∧W.heap[w.heap.size]? = some (.deferred (some [])))
   (fun k W => ∃ c,Ix c k W∧W.heap[w.heap.size + 1]? = some (.loop (rec .done (some c)))∧W.heap[w.heap.size]? = some (.deferred (some [])))
   W1 (hb0.trans hx1)
   (fun k A B hs hb=>⟨hI k A B hs.1 (hb.mono (by omega)),keep (by omega) hs.2.1 hb,keep (by omega) hs.2.2 hb⟩)
   (fun k A B ⟨c,hc,hl,hk⟩ hb=>⟨c,hIx c k A B hc (hb.mono (by omega)),keep (by omega) hl hb,keep (by omega) hk hb⟩)
   ?_ ⟨hI 0 _ _ h0 hx1,hL1,hK1⟩) ?_)
  ·-- one round
   rintro k hk W hszW ⟨hi,hl,hd⟩
   have hlt:w.heap.size + 1 < W.heap.size:=(Array.getElem?_eq_some_iff.1 hl).1
   have hy:=run_yield (P:=P) (args:=xs[k]) hl (by rw [hrec];exact hps _ (List.getElem_mem hk))
   rw [hrec] at hy
   refine ⟨fn,_,assign,body,hy,roundIn_wide (r:=none) (m:=n) (roundIn_of_wpIn (n:=n) (F:=Fr none) trivial (show assign.wpIn (Fr (some (w.heap.size + 1))) n P _ _ _ from hassign _ k hk W _ ?_))⟩
   refine ⟨_,run_beginRound hl (by rw [hrec]), ?_⟩
   have hl2:(W.putObj (w.heap.size + 1) (.loop { rec .ready none with state := .busy })).heap[w.heap.size + 1]? = some (.loop { rec .ready none with state := .busy }):=World.putObj_heap_same hlt
   have hd2:(W.putObj (w.heap.size + 1) (.loop { rec .ready none with state := .busy })).heap[w.heap.size]? = some (.deferred (some [])):=(World.putObj_heap_other (by omega)).trans hd
   have put:∀ (V:World) (o:Obj),w.heap.size + 1 < V.heap.size→Below w.heap.size V (V.putObj (w.heap.size + 1) o):=fun V o hv=>(Mod.putObj V _ o).below (by omega) (fun _ e=>by omega)
   show body.wpIn (Fr (some (w.heap.size + 1))) n P _ _ _
   refine wpIn_mono (hbody _ k hk _ (by simp;omega) (hI _ _ _ hi (put W _ hlt))) ?_
   have fin:∀ (jump:Option Code) (W3:World),Mod G1 (W.putObj (w.heap.size + 1) (.loop { rec .ready none with state := .busy })) W3 →
     (Instr.endRound (w.heap.size + 1) jump).run P W3 = .ok (.bool jump.isNone) (W3.putObj (w.heap.size + 1) (.loop (rec (if jump.isNone then .ready else .done) jump))) ∧
     Below w.heap.size W3 (W3.putObj (w.heap.size + 1) (.loop (rec (if jump.isNone then .ready else .done) jump))) ∧
     (W3.putObj (w.heap.size + 1) (.loop (rec (if jump.isNone then .ready else .done) jump))).heap[w.heap.size + 1]? = some (.loop (rec (if jump.isNone then .ready else .done) jump)) ∧
     (W3.putObj (w.heap.size + 1) (.loop (rec (if jump.isNone then .ready else .done) jump))).heap[w.heap.size]? = some (.deferred (some [])) ∧
     Mod (fun b=>G b∨(w0.heap.size≤b∧b < W1.heap.size)) W (W3.putObj (w.heap.size + 1) (.loop (rec (if jump.isNone then .ready else .done) jump))):=fun jump W3 hk3=>by
    have hl3:=(hk3.block (w.heap.size + 1) (by simp;omega) (fun hg1=>by have:=(hG _ hg1).1;omega)).trans hl2
    have hd3:=(hk3.block w.heap.size (by simp;omega) (fun hg1=>by have:=(hG _ hg1).1;omega)).trans hd2
    have hlt3:w.heap.size + 1 < W3.heap.size:=(Array.getElem?_eq_some_iff.1 hl3).1
    have he:=run_endRound (P:=P) jump hl3
    rw [hrec] at he ⊢
    have h00:=hb0.size
    exact ⟨he,put W3 _ hlt3,World.putObj_heap_same hlt3,(World.putObj_heap_other (by omega)).trans hd3,
     Mod.trans (F:=fun b=>G b∨(w0.heap.size≤b∧b < W1.heap.size)) (G:=fun b=>G b∨(w0.heap.size≤b∧b < W1.heap.size)) ((Mod.putObj W _ _).mono fun b _ e=>.inr ⟨by omega,by omega⟩)
      (Mod.trans (F:=fun b=>G b∨(w0.heap.size≤b∧b < W1.heap.size)) (G:=fun b=>G b∨(w0.heap.size≤b∧b < W1.heap.size)) (hk3.mono fun b _ h=>(hG b h).2.imp id fun h'=>⟨h',by have:=(hG b h).1;omega⟩)
       ((Mod.putObj W3 _ _).mono fun b _ e=>.inr ⟨by omega,by omega⟩) fun _ _ h=>h) fun _ _ h=>h⟩
   rintro e a3 W3 hp
   cases e with
   | normal =>
    obtain ⟨hk3,hi3⟩:=hp
    obtain ⟨hr,hb3,hl4,hk4,hm⟩:=fin none W3 hk3
    exact ⟨_,_,hr,hm, .inl ⟨rfl,hI _ _ _ hi3 hb3,hl4,hk4⟩⟩
   | ret =>
    obtain ⟨hk3,hi3⟩:=hp
    obtain ⟨hr,hb3,hl4,hk4,hm⟩:=fin (some .ret) W3 hk3
    exact ⟨_,_,hr,hm, .inr ⟨rfl, .ret,hIx _ _ _ _ hi3 hb3,hl4,hk4⟩⟩
   | exit id =>
    obtain ⟨hk3,hi3⟩:=hp
    obtain ⟨hr,hb3,hl4,hk4,hm⟩:=fin (some (.exit id)) W3 hk3
    exact ⟨_,_,hr,hm, .inr ⟨rfl, .exit id,hIx _ _ _ _ hi3 hb3,hl4,hk4⟩⟩
   | goto t =>
    obtain ⟨hk3,hi3⟩:=hp
    obtain ⟨hr,hb3,hl4,hk4,hm⟩:=fin (some (.goto t)) W3 hk3
    exact ⟨_,_,hr,hm, .inr ⟨rfl, .goto t,hIx _ _ _ _ hi3 hb3,hl4,hk4⟩⟩
   | panic ch=>exact hp.elim
   | outgrown=>exact hp.elim
  ·-- behind the iterator
   have put:∀ (V:World) (o:Obj),w.heap.size + 1 < V.heap.size→Below w.heap.size V (V.putObj (w.heap.size + 1) o):=fun V o hv=>(Mod.putObj V _ o).below (by omega) (fun _ e=>by omega)
   rintro e W2 ⟨⟨v,rfl⟩,(⟨hi,hl,hk⟩ | ⟨k,hk',c,hi,hl,hk⟩)⟩
   ·exact ⟨none,_,by have:=run_endLoop (P:=P) hl (by rw [hrec];simp);rw [hrec] at this;exact this,hdone _ _ (Nat.le_refl _) (hI _ _ _ hi (put _ _ (Array.getElem?_eq_some_iff.1 hl).1)) ((World.putObj_heap_other (by omega)).trans hk)⟩
   ·exact ⟨some c,_,by have:=run_endLoop (P:=P) hl (by rw [hrec];simp);rw [hrec] at this;exact this,hstop _ c k _ (Nat.le_refl _) hk' (hIx c _ _ _ hi (put _ _ (Array.getElem?_eq_some_iff.1 hl).1)) ((World.putObj_heap_other (by omega)).trans hk)⟩
end Go.Proofs.YtdoeoncmhaihbaaGreat
namespace Go.Proofs.YtdoeoncmhaihbaaGreat
set_option maxHeartbeats 3200000
set_option maxRecDepth 100000
open Go.RowKit
theorem listInTake {P:Program} {r:Option Nat} {n:Nat} {ops:Array Oper} {Q:Exit→Act→World→Prop} (k:Nat):∀ {l:List Oper} {a:Act} {w:World},noDefers (l.take k) = true →
  wpList P ops (Exit.then (wpListIn (Fr r) n P ops Q (l.drop k)) (fun _ _ _=>False)) (l.take k) a w→wpListIn (Fr r) n P ops Q l a w:=by
 induction k with
 | zero=>intro l a w _ h;exact h
 | succ k ih =>
  intro l a w hd h
  cases l with
  | nil=>exact h
  | cons o l =>
   simp only [List.take_succ_cons,List.drop_succ_cons] at hd h
   simp only [noDefers,List.all_cons,Bool.and_eq_true,Bool.not_eq_true'] at hd
   unfold wpList at h
   unfold wpListIn
   split
   ·rename_i hw
    rw [if_pos hw] at h
    rcases h with h | ⟨_,_,_,h⟩
    ·refine Oper.wpIn_mono (fun a w hr=>ih (l:=l) hd.2 hr) (opIn hd.1 ?_)
     exact Oper.wp_noQ (fun _ _ h=>h) (by
      unfold Oper.wp at h ⊢
      generalize (execOp a.eval o).run P w = res at h
      cases res with
      | ok x w' =>
       cases x with
       | enter f args =>
        refine Calls.mono h fun e w'' he => ?_
        cases e with
        | returned v=>exact he
        | panicked c=>exact he.elim
        | outgrown=>obtain ⟨_,_,hf⟩:=he;exact hf.elim
       | value v=>exact h
       | skip=>exact h
       | defer d=>exact h
       | row row args=>exact h
       | _=>exact h.elim
      | halt x w' =>
       cases x with
       | panic v=>exact h.elim
       | _=>exact h.elim)
    ·exact h.elim
   ·rename_i hw
    rw [if_neg hw] at h
    exact ⟨fun _ _=>trivial,ih (l:=l) hd.2 h⟩
def backs (L:List Int):List (Array Value):=(List.range L.length).map fun k => #[.int .i64 ((L.length - 1 - k:Nat):Int), .int .i64 (L.getD (L.length - 1 - k) 0)]
theorem backs_len (L:List Int):(backs L).length = L.length:=by simp [backs]
theorem backs_at (L:List Int) {k:Nat} (hk:k < (backs L).length):(backs L)[k] = #[.int .i64 ((L.length - 1 - k:Nat):Int), .int .i64 (L.getD (L.length - 1 - k) 0)]:=by simp [backs]
theorem back1_seq {w:World} {cb:Nat} {v:Value} {L:List Int} {G:Nat→Prop} (hf:Fs w cb [v]) (hi:Ints w v L) (hlen:L.length≤100000) (hG1:¬ G cb) (hG2:∀ k,v.ownBlock = some k→¬ G k∧k < w.heap.size) :
  Seq Tryz.prog 104 #[.pointer (some ⟨cb,0,none⟩)] (backs L) G w:=by
 intro l J Jx W hX hJ hJx hY h0
 refine calls_fr (r:=none) (n:=0) ?_
 refine callsIn_of_wp Tryz.func104 rfl trivial ?_ rfl
 simp only [Tryz.ntmps104,List.size_toArray,List.length_cons,List.length_nil,Nat.reduceAdd,Nat.reduceSub,Array.replicate_succ,Array.replicate_zero,List.push_toArray,List.append_toArray,List.nil_append,List.cons_append]
 have f0:=hide_ (hf.ext hX)
 have i0:=hide_ (hi.ext hX)
 have hcb:=hide_ hf.lt
 gi_wp2_with (refine listIn (by kernel_rfl) ?_;go_wp2_with ((first | ((with_reducible refine at_load ?_);refine w_fload _ rfl rfl rfl f0.out rfl (agg_of (by kernel_rfl)) ?_) | ((with_reducible refine at_bi ?_);refine i_len _ rfl rfl rfl i0.out ?_) | refine noOut_n ?_ | fail) <;> (try simp only [Act.put,List.setIfInBounds_toArray,List.set_cons_zero,List.set_cons_succ])))
 gi_loopw [3] (fun u3 wr => ∃ k:Nat,u3 = .int .i64 ((L.length:Int) - 1 - k)∧k≤L.length∧J k wr∧Fs wr cb [v]∧Ints wr v L∧Hid (W.heap.size≤wr.heap.size)) (fun u3 _=>(intOf u3 + 1).toNat)
 case atStart=>exact ⟨0,by simp,Nat.zero_le _,h0,f0.out,i0.out,Nat.le_refl _⟩
 case round =>
  obtain ⟨k,rfl,hk,hj,f1,i1,hsz⟩:=hrel
  by_cases hlt0:k < L.length
  ·obtain ⟨i,hi0⟩:∃ i:Nat,L.length = i + k + 1:=⟨L.length - 1 - k,by omega⟩
   have hi1:(L.length:Int) - 1 - k = (i:Int):=by omega
   rw [hi1]
   have hil0:i < L.length:=by omega
   have hil:=hide_ hil0
   have hy:=hide_ (hY k (by rw [backs_len];exact hlt0) wr hsz.out hj)
   obtain ⟨x,hx0⟩:∃ x,L[i] = x:=⟨_,rfl⟩
   have hx:=hide_ hx0
   have harg:=hide_ (show (backs L)[k]'(by rw [backs_len];exact hlt0) = #[.int .i64 (i:Int), .int .i64 x] from by
    rw [backs_at,show L.length - 1 - k = i from by omega,getD_at L hil0]
    exact congrArg (fun z => #[Value.int .i64 (i:Int),Value.int .i64 z]) hx0)
   have hy2:=hide_ (harg.out ▸ hy.out:YieldAt Fence.wide 0 Tryz.prog l #[.int .i64 (i:Int), .int .i64 x] wr _)
   have hi7:i≤100000:=by omega
   have hlast:=hide_ (show k + 1 = L.length∨k + 1 < L.length from by omega)
   have hii:=hide_ hi0
   clear hi1 hi0 hx0 hj
   have hcb1:=hide_ (show ¬ (G cb∨(w.heap.size≤cb∧cb < W.heap.size)) from fun h=>h.elim hG1 fun h=>by have:=hcb.out;omega)
   have hvb:=hide_ (show ∀ j,v.ownBlock = some j→¬ (G j∨(w.heap.size≤j∧j < W.heap.size)) from fun j hj h=>h.elim (hG2 j hj).1 fun h=>by have:=(hG2 j hj).2;omega)
   gi_wp2_with (first | (refine listInTake 4 (l:=⟨some 13,_,_,_,_,_⟩ :: _) (by kernel_rfl) ?_;simp only [List.take_succ_cons,List.take_zero,List.drop_succ_cons,List.drop_zero];go_wp2_with ((first | ((with_reducible refine at_load ?_);refine w_fload _ rfl rfl rfl f1 rfl (agg_of (by kernel_rfl)) ?_) | ((with_reducible refine at_idx ?_);refine i_idx _ _ i rfl rfl rfl i1 rfl hil.out ?_;intro ad had;replace had:=had.trans (congrArg (fun z=>some (Value.int .i64 z)) hx.out)) | fail) <;> (try simp only [Act.put,List.setIfInBounds_toArray,List.set_cons_zero,List.set_cons_succ]))) | (refine w_yield0 (o:=⟨some 17,_,_,_,_,_⟩) _ rfl rfl rfl (by simp only [List.map_toArray,List.map_cons,List.map_nil,Act.eval];rfl) hy2.out ?_;rintro e W3 ⟨hm,⟨rfl,hj3⟩ | ⟨rfl,hj3⟩⟩ <;> refine ⟨_,rfl, ?_⟩ <;> simp only [Act.put,List.setIfInBounds_toArray,List.set_cons_zero,List.set_cons_succ]) | (refine listIn (by kernel_rfl) ?_;go_wp2_with (refine noOut_n ?_)) | fail)
   ·have hs3:=hide_ (Nat.le_trans hsz.out hm.size)
    replace f1:=f1.mod hm hcb1.out
    replace i1:=Sl.mod i1 hm hvb.out
    have hii':=hii.out
    go_roundw
    case rel=>exact ⟨k + 1,by go_num,by omega,hj3,f1,i1,hs3⟩
    case measure=>simp [intOf]
   ·refine bodyPost_ret (results_none rfl _ _ _) rfl ?_
    exact ⟨⟨_,rfl⟩, .inr ⟨k + 1,by rw [backs_len];omega,hj3⟩⟩
  ·obtain rfl:k = L.length:=by omega
   have e0:(L.length:Int) - 1 - L.length = -1:=by omega
   rw [e0]
   gi_wp2_with (first | (refine listIn (by kernel_rfl) ?_;go_wp2_with (refine noOut_n ?_)) | fail)
   go_end0
   exact ⟨⟨_,rfl⟩, .inl (by rw [backs_len];exact hj)⟩
set_option maxHeartbeats 1600000 in
theorem Backward_any (v:Value) (w:World) (hv:v.cells.toList = [v]):Calls Tryz.prog 96 #[v] w fun e w' => ∃ cb,e = .returned (.func (.func 104) #[] #[.pointer (some ⟨cb,0,none⟩)])∧Fs w' cb [v]∧w.heap.size≤cb∧Ext w w':=by
 refine z2rz ?_
 go_enter Tryz.func96,Tryz.ntmps96
 go_wp2_with ((first | ((with_reducible refine at_box ?_);refine w_box _ [v] rfl rfl rfl hv ?_;intro cb w2 hcb hx f2) | fail) <;> (try refine z0z ?_))
 go_ret
 exact Keep.intro ⟨cb,rfl,f2,hcb,hx⟩
set_option maxHeartbeats 1600000 in
theorem viewsAbove_any (p:Nat) (view:Int) (w:World):Calls Tryz.prog 79 #[.pointer (some ⟨p,0,none⟩), .int .i64 view] w fun e w' =>
  ∃ b3 b4,e = .returned (.func (.func 95) #[] #[.pointer (some ⟨b3,0,none⟩), .pointer (some ⟨b4,0,none⟩)])∧Fs w' b3 [.pointer (some ⟨p,0,none⟩)]∧Fs w' b4 [.int .i64 view]∧w.heap.size≤b3∧w.heap.size≤b4∧Ext w w':=by
 refine z2rz ?_
 have hX:=Ext.refl w
 go_enter Tryz.func79,Tryz.ntmps79
 go_wp2_with ((first | ((with_reducible refine at_box ?_);refine w_box (.tmp 0) [.pointer (some ⟨p,0,none⟩)] rfl rfl rfl rfl ?_;intro b3 w2 hb3 hx f3;replace hX:=hX.trans hx;clear hx) | ((with_reducible refine at_box ?_);refine w_box (.tmp 1) [.int .i64 view] rfl rfl rfl rfl ?_;intro b4 w3 hb4 hx f4;replace f3:=f3.ext hx;have hs4:=hX.size;replace hX:=hX.trans hx;clear hx) | fail) <;> (try refine z0z ?_))
 go_ret
 exact Keep.intro ⟨b3,b4,rfl,f3,f4,hb3,Nat.le_trans hs4 hb4,hX⟩
def ups (V:List Int) (view:Int):List Int:=(V.filter fun x=>decide (view < x)).reverse
theorem ups_split (view:Int):∀ {V:List Int},Rise V→∃ A B,V = A ++ B∧(∀ x∈A,x≤view)∧∀ x∈B,view < x
 | [],_=>⟨[], [],rfl,(fun _ h=>nomatch h),fun _ h=>nomatch h⟩
 | y :: V,h=>by
  obtain ⟨h1,h2⟩:=List.pairwise_cons.1 h
  by_cases hy:view < y
  ·refine ⟨[],y :: V,rfl,(fun _ h=>nomatch h),fun x hx => ?_⟩
   rcases List.mem_cons.1 hx with rfl | hx
   ·exact hy
   ·have:=h1 x hx;omega
  ·obtain ⟨A,B,e,hA,hB⟩:=ups_split view (V:=V) h2
   refine ⟨y :: A,B,by rw [e];rfl,fun x hx => ?_,hB⟩
   rcases List.mem_cons.1 hx with rfl | hx
   ·omega
   ·exact hA x hx
theorem ups_of {V A B:List Int} {view:Int} (e:V = A ++ B) (hA:∀ x∈A,x≤view) (hB:∀ x∈B,view < x):ups V view = B.reverse:=by
 unfold ups
 rw [e,List.filter_append,List.filter_eq_nil_iff.2 (by intro x hx;have:=hA x hx;simp;omega),List.filter_eq_self.2 (by intro x hx;simpa using hB x hx)]
 rfl
theorem mem_ups {V:List Int} {view x:Int}:x∈ups V view ↔ x∈V∧view < x:=by unfold ups;simp
theorem getD_rev (V:List Int) {k:Nat} (hk:k < V.length):V.getD (V.length - 1 - k) 0 = V.reverse.getD k 0:=by
 rw [getD_at V (by omega),getD_at V.reverse (by simpa using hk),List.getElem_reverse]
theorem ups_at {V:List Int} (hV:Rise V) {view:Int} {k:Nat} (hk:k < V.length):(view < V.getD (V.length - 1 - k) 0→k < (ups V view).length∧(ups V view).getD k 0 = V.getD (V.length - 1 - k) 0)∧(V.getD (V.length - 1 - k) 0≤view→(ups V view).length≤k):=by
 obtain ⟨A,B,e,hA,hB⟩:=ups_split view hV
 rw [getD_rev V hk,ups_of e hA hB]
 have hr:V.reverse = B.reverse ++ A.reverse:=by rw [e,List.reverse_append]
 rw [hr]
 by_cases hkb:k < B.reverse.length
 ·have e1:(B.reverse ++ A.reverse).getD k 0 = B.reverse.getD k 0:=by simp [List.getD_eq_getElem?_getD,List.getElem?_append_left hkb]
  rw [e1]
  refine ⟨fun _=>⟨hkb,rfl⟩,fun hle => ?_⟩
  have:=hB (B.reverse.getD k 0) (by rw [getD_at B.reverse hkb];exact List.mem_reverse.1 (List.getElem_mem hkb))
  omega
 ·refine ⟨fun hlt => ?_,fun _=>by omega⟩
  exfalso
  have hkl:k < (B.reverse ++ A.reverse).length:=by rw [← hr];simpa using hk
  rw [getD_at _ hkl,List.getElem_append_right (by omega)] at hlt
  have h0:k - B.reverse.length < A.reverse.length:=by rw [List.length_append] at hkl;omega
  have:=hA _ (List.mem_reverse.1 (List.getElem_mem h0))
  omega
theorem ups_rise {V:List Int} (hV:Rise V) {view:Int} {i j:Nat} (hij:i < j) (hj:j < (ups V view).length):(ups V view).getD j 0 < (ups V view).getD i 0:=by
 have h:(ups V view).reverse.Pairwise (· < ·):=by unfold ups;rw [List.reverse_reverse];exact hV.filter _
 rw [List.pairwise_reverse] at h
 rw [getD_at _ hj,getD_at _ (by omega)]
 exact List.pairwise_iff_getElem.1 h i j (by omega) hj hij
set_option maxHeartbeats 6400000 in
theorem above_seq {w:World} {b3 b4 p:Nat} {view:Int} {X G:Nat→Prop} {g N:Nat} {sv:Value} {D:DataW Value} {m:Int→Int→Option Nat} {t:List Int} {T:Tab} (hf3:Fs w b3 [.pointer (some ⟨p,0,none⟩)]) (hf4:Fs w b4 [.int .i64 view]) (hT:TalW X w p sv g D m t T N) (hN:N≤2100)
  (hG4:¬ G b4) (hGX:∀ k,G k→k < w.heap.size):Seq Tryz.prog 95 #[.pointer (some ⟨b3,0,none⟩), .pointer (some ⟨b4,0,none⟩)] ((ups (vwsOf m) view).map fun x => #[.int .i64 x]) G w:=by
 intro l J Jx W hX hJ hJx hY h0
 refine calls_fr (r:=none) (n:=0) ?_
 refine callsIn_of_wp_marks Tryz.func95 rfl trivial ?_ rfl
 simp only [Tryz.ntmps95,List.size_toArray,List.length_cons,List.length_nil,Nat.reduceAdd,Nat.reduceSub,Array.replicate_succ,Array.replicate_zero,List.push_toArray,List.append_toArray,List.nil_append,List.cons_append]
 obtain ⟨V,hVe⟩:∃ V,vwsOf m = V:=⟨_,rfl⟩
 have hV:=hide_ (show Vws T 1001 V from by rw [← hVe];exact hT.vws)
 have f3:=hide_ (hf3.ext hX)
 have f4:=hide_ (hf4.ext hX)
 have hTW:=hide_ (hT.ext hX)
 have hb34:=hide_ (show b3 < w.heap.size∧b4 < w.heap.size from ⟨hf3.lt,hf4.lt⟩)
 have hXX:=Ext.refl W
 rw [hVe] at hY ⊢
 gi_wp2_with (refine listIn (by kernel_rfl) ?_;go_wp2_with ((first | ((with_reducible refine at_box ?_);refine w_box _ [.func (.yield l) #[] #[]] rfl rfl rfl rfl ?_;intro c0 w2 hc0 hx f0;replace hXX:=hXX.trans hx;clear hx) | ((with_reducible refine at_load ?_);refine w_fload _ rfl rfl rfl (f3.out.ext hXX) rfl (agg_of (by kernel_rfl)) ?_) | (go_at_call 73;refine (views_any (hTW.out.ext hXX) hN).mono ?_;rintro e w3 ⟨u,rfl,o3,hx⟩;rw [hVe] at o3;replace f0:=f0.ext hx;have hs3:=hXX.size;replace hXX:=hXX.trans hx;clear hx) | (go_at_call 96;refine (Backward_any _ _ (by rw [oneCell_cells (Sl.one' o3.ints)])).mono ?_;rintro e w4 ⟨cb,rfl,f5,hcb,hx⟩;replace f0:=f0.ext hx;replace o3:=o3.ext hx;have hs4:=hXX.size;replace hXX:=hXX.trans hx;clear hx) | refine noOut_n ?_ | fail) <;> (try simp only [Act.put,List.setIfInBounds_toArray,List.set_cons_zero,List.set_cons_succ])))
 have hub:=hide_ (fun j (hj:u.ownBlock = some j)=>o3.own_lt hj)
 have hi3:=hide_ o3.ints
 have f50:=hide_ f5
 have hsW:=hide_ (show W.heap.size≤w4.heap.size from hXX.size)
 have hcbW:=hide_ (Nat.le_trans hs4 hcb)
 have hWw:=hide_ hX.size
 obtain ⟨m0,hm0⟩:∃ m0,(ups V view).length = m0:=⟨_,rfl⟩
 have hxs:((ups V view).map fun x=>(#[.int .i64 x]:Array Value)).length = m0:=by rw [List.length_map,hm0]
 refine wp_rangeSeq (gf:=104) (lb:=#[.pointer (some ⟨cb,0,none⟩)]) (G:=fun b=>G b∨(w.heap.size≤b∧b < W.heap.size)) (G1:=fun b=>G b∨(w.heap.size≤b∧b < W.heap.size)) rfl (enters_of Tryz.func104 (by kernel_rfl) rfl)
  (back1_seq f5 o3.ints (Nat.le_trans hV.out.len (by omega)) (fun h => ?g1) (fun j hj=>⟨fun h => ?g2,(hub.out j hj).2⟩)) (Ext.refl _) (fun x hx => ?sz) (fun b hb=>⟨?g3, .inl hb⟩)
  (fun k A=>J k A∧k≤m0∧Fs A c0 [.func (.yield l) #[] #[]]∧Fs A b4 [.int .i64 view]∧W.heap.size≤A.heap.size) (fun c k A=>c = .ret∧((k≤m0 + 1∧J m0 A)∨∃ j,j≤m0∧Jx j A)) ?sI ?sIx ?i0
  (fun k=>{ tmps:=#[.func (.yield l) #[] #[], .pointer (some ⟨b3,0,none⟩), .pointer (some ⟨b4,0,none⟩), .pointer (some ⟨c0,0,none⟩),undef, .int .i64 (V.getD (V.length - 1 - k) 0), .pointer (some ⟨p,0,none⟩),u, .func (.func 104) #[] #[.pointer (some ⟨cb,0,none⟩)], .int .i64 ((V.length - 1 - k:Nat):Int), .int .i64 (V.getD (V.length - 1 - k) 0),undef,undef,undef,undef,undef,undef,undef,undef,undef],defers:=[] }) ?assign ?body ?done ?stop
 case assign =>
  intro l2 k hk W2 K hK
  rw [backs_at]
  simp only [Array.zip_eq_zipWith,List.zipWith_toArray,List.zipWith_cons_cons,List.zipWith_nil_left]
  try dsimp only at hK
  obtain ⟨x,hx⟩:∃ x,V.getD (V.length - 1 - k) 0 = x:=⟨_,rfl⟩
  obtain ⟨ix,hix⟩:∃ ix:Int,((V.length - 1 - k:Nat):Int) = ix:=⟨_,rfl⟩
  rw [hx,hix] at hK ⊢
  clear hx hix
  refine region_in (by kernel_rfl) ?_
  go_wp2_with (refine noOut_n ?_)
  exact hK
 case body =>
  rintro l2 k hk0 W2 hsz ⟨hj0,hkm,g0,g4,hsW2⟩
  rw [backs_len] at hk0
  have hat:=ups_at hV.out.rise (view:=view) hk0
  try dsimp only
  obtain ⟨x,hx⟩:∃ x,V.getD (V.length - 1 - k) 0 = x:=⟨_,rfl⟩
  obtain ⟨ix,hix⟩:∃ ix:Int,((V.length - 1 - k:Nat):Int) = ix:=⟨_,rfl⟩
  rw [hx] at hat
  rw [hx,hix]
  clear hx hix
  by_cases hle:x≤view
  ·have t1:decide (x≤view) = true:=decide_eq_true hle
   have hmk:k = m0:=by have:=hat.2 hle;omega
   clear hat hle
   gi_wp2_with (first | (refine listIn (l:=⟨some 12,_,_,_,_,_⟩ :: _) (by kernel_rfl) ?_;go_wp2_with ((first | go_big_skip | ((with_reducible refine at_load ?_);refine w_fload _ rfl rfl rfl g4 rfl (agg_of (by kernel_rfl)) ?_) | (refine noOut_n ?_) | fail) <;> (try simp only [Act.put,List.setIfInBounds_toArray,List.set_cons_zero,List.set_cons_succ]))) | fail)
   subst hmk
   exact ⟨Mod.refl _ _,rfl, .inl ⟨by omega,hj0⟩⟩
  ·have t1:decide (x≤view) = false:=decide_eq_false hle
   obtain ⟨hku,hxu⟩:=hat.1 (by omega)
   have hy:=hide_ (hY k (by rw [hxs];omega) W2 hsW2 hj0)
   have harg:=hide_ (show ((ups V view).map fun x=>(#[.int .i64 x]:Array Value))[k]'(by rw [hxs];omega) = #[.int .i64 x] from by
    rw [List.getElem_map, ← getD_at _ hku,hxu])
   have hy2:=hide_ (harg.out ▸ hy.out:YieldAt Fence.wide 0 Tryz.prog l #[.int .i64 x] W2 _)
   clear hat hle
   gi_wp2_with (first | (refine listInTake 5 (l:=⟨some 12,_,_,_,_,_⟩ :: _) (by kernel_rfl) ?_;simp only [List.take_succ_cons,List.take_zero,List.drop_succ_cons,List.drop_zero];go_wp2_with ((first | ((with_reducible refine at_load ?_);(try refine w_yes _ _ _ rfl rfl rfl ?_);refine w_fload (.tmp 2) rfl rfl rfl g4 rfl (agg_of (by kernel_rfl)) ?_) | ((with_reducible refine at_load ?_);(try refine w_yes _ _ _ rfl rfl rfl ?_);refine w_fload (.tmp 3) rfl rfl rfl g0 rfl (agg_of (by kernel_rfl)) ?_) | fail) <;> (try simp only [Act.put,List.setIfInBounds_toArray,List.set_cons_zero,List.set_cons_succ]))) | (refine wi_yes (o:=⟨some 17,_,_,_,_,_⟩) _ _ _ rfl rfl rfl ?_;refine w_yield0 (o:=⟨some 17,_,_,_,_,_⟩) _ rfl rfl rfl (by simp only [List.map_toArray,List.map_cons,List.map_nil,Act.eval];rfl) hy2.out ?_;rintro e W3 ⟨hm,⟨rfl,hj3⟩ | ⟨rfl,hj3⟩⟩ <;> refine ⟨_,rfl, ?_⟩ <;> simp only [Act.put,List.setIfInBounds_toArray,List.set_cons_zero,List.set_cons_succ]) | (refine listIn (by kernel_rfl) ?_;go_wp2_with (refine noOut_n ?_)) | fail)
   ·have hn0:¬ (G c0∨(w.heap.size≤c0∧c0 < W.heap.size)):=fun h=>by have:=hWw.out;rcases h with h | h;have:=hGX c0 h;omega;omega
    have hn4:¬ (G b4∨(w.heap.size≤b4∧b4 < W.heap.size)):=fun h=>by have:=hb34.out;rcases h with h | h;exact hG4 h;omega
    exact ⟨hm,hj3,by omega,g0.mod hm hn0,g4.mod hm hn4,Nat.le_trans hsW2 hm.size⟩
   ·exact ⟨hm,rfl, .inr ⟨k + 1,by omega,hj3⟩⟩
 case g1=>have:=hcbW.out;rcases h with h | h;have:=hGX cb h;have:=hWw.out;omega;omega
 case g2=>have:=hub.out j hj;have:=hWw.out;rcases h with h | h;have:=hGX j h;omega;omega
 case sz=>obtain ⟨k,hk,rfl⟩:=List.mem_map.1 hx;rfl
 case g3=>have:=hsW.out;have:=hWw.out;rcases hb with h | h;have:=hGX b h;omega;omega
 case sI=>exact fun k A B ⟨h1,h2,h3,h4,h5⟩ hb=>⟨hJ k A B h1 (hb.mono hsW.out),h2,h3.below hb f0.lt,h4.below hb (by have:=hb34.out;have:=hWw.out;have:=hsW.out;omega),Nat.le_trans h5 hb.size⟩
 case sIx=>exact fun c k A B ⟨h1,h2⟩ hb=>⟨h1,h2.imp (fun h=>⟨h.1,hJ _ A B h.2 (hb.mono hsW.out)⟩) fun ⟨j,h3,h4⟩=>⟨j,h3,hJx j A B h4 (hb.mono hsW.out)⟩⟩
 case i0=>exact ⟨hJ 0 W w4 h0 hXX,Nat.zero_le _,f0,f4.out.ext hXX,hsW.out⟩
 case done =>
  rintro D2 W2 hD ⟨h1,h2,_,_,h5⟩ hK
  have hm0l:m0 = V.length:=by
   have:(ups V view).length≤V.length:=by unfold ups;rw [List.length_reverse];exact List.length_filter_le _ _
   rw [backs_len] at h2;omega
  refine ⟨by simp, .inl ⟨_,_,rfl,run_takeDeferred hK, ?_⟩⟩
  refine ⟨_,results_none rfl _ _ _,⟨_,rfl⟩, .inl ?_⟩
  rw [hxs,hm0l]
  rw [backs_len] at h1
  exact hJ _ _ _ h1 ((Mod.putObj _ _ _).below (by omega) (fun j e=>by have:=hsW.out;omega))
 case stop =>
  rintro D2 c k W2 hD hk ⟨rfl,h2⟩ hK
  have hb2:Below W.heap.size W2 (W2.putObj D2 (.deferred none)):=(Mod.putObj _ _ _).below (by have:=hsW.out;have:=(Array.getElem?_eq_some_iff.1 hK).1;omega) (fun j e=>by have:=hsW.out;omega)
  refine wpIn_ret ?_
  refine ⟨by simp, .inl ⟨_,_,rfl,run_takeDeferred hK, ?_⟩⟩
  refine ⟨_,results_none rfl _ _ _,⟨_,rfl⟩, ?_⟩
  rw [hxs]
  rcases h2 with ⟨_,h3⟩ | ⟨j,h3,h4⟩
  ·exact .inl (hJ _ _ _ h3 hb2)
  ·exact .inr ⟨j,h3,hJx _ _ _ h4 hb2⟩
def inV (T:Tab) (U:List Int) (k i:Nat):Bool:=decide (∃ j:Nat,j < k∧(T 4 (U.getD j 0) i≠none∨T 5 (U.getD j 0) i≠none))
theorem inV_succ (T:Tab) (U:List Int) (k i:Nat):inV T U (k + 1) i = (inV T U k i || (T.any 4 (U.getD k 0) i || T.any 5 (U.getD k 0) i)):=by
 rw [Bool.eq_iff_iff,Bool.or_eq_true,Bool.or_eq_true]
 unfold inV Tab.any
 rw [decide_eq_true_iff,decide_eq_true_iff]
 have hs:∀ {x:Option Int},x.isSome = true ↔ x≠none:=fun {x}=>by cases x <;> simp
 rw [hs,hs]
 constructor
 ·rintro ⟨j,hj,h⟩
  by_cases hjk:j < k
  ·exact .inl ⟨j,hjk,h⟩
  ·obtain rfl:j = k:=by omega
   exact .inr h
 ·rintro (⟨j,hj,h⟩ | h)
  ·exact ⟨j,by omega,h⟩
  ·exact ⟨k,by omega,h⟩
theorem some3_congr {t:List Int} {p q:Nat→Bool} (h:∀ i,i < t.length→p i = q i):some3 t (picks p t.length) = some3 t (picks q t.length):=by
 unfold some3
 rw [sum_picks,sum_picks,ws_congr t.length h]
theorem from_inV {T:Tab} {t:List Int} (_hT:TabOk T t.length) {N:Nat} {V:List Int} (hV:Vws T N V) {view:Int} {k:Nat} (hk:k≤(ups V view).length) {w:Int} (hw:view < w) (hle:∀ j,j < k→w≤(ups V view).getD j 0) (hgt:∀ j,k≤j→j < (ups V view).length→(ups V view).getD j 0 < w) (i:Nat) :
  T.from' w i = inV T (ups V view) k i:=by
 rw [Bool.eq_iff_iff]
 unfold Tab.from' inV
 rw [decide_eq_true_iff,decide_eq_true_iff]
 constructor
 ·rintro ⟨v,h1,h2,h3⟩
  have hm:(v:Int)∈ups V view:=mem_ups.2 ⟨by rcases h3 with h3 | h3 <;> exact hV.all _ _ _ h3,by omega⟩
  obtain ⟨j,hj,he⟩:=List.getElem_of_mem hm
  refine ⟨j, ?_,by rw [getD_at _ hj,he];exact h3⟩
  rcases Nat.lt_or_ge j k with h | h
  ·exact h
  ·have:=hgt j h hj
   rw [getD_at _ hj,he] at this
   omega
 ·rintro ⟨j,hj,h3⟩
  have hjl:j < (ups V view).length:=by omega
  have hm:=mem_ups.1 (List.getElem_mem hjl)
  have hf:=hV.fit _ hm.1
  have h1:=hle j hj
  rw [getD_at _ hjl] at h1 h3
  refine ⟨((ups V view)[j]).toNat,by omega,by omega, ?_⟩
  rw [show (((ups V view)[j]).toNat:Int) = (ups V view)[j] from by omega]
  exact h3
theorem ahead_yes {T:Tab} {t:List Int} (hT:TabOk T t.length) (ht:StOk t) {N:Nat} {V:List Int} (hV:Vws T N V) {view:Int} {k:Nat} (hk:k < (ups V view).length) (hno:k = 0∨some3 t (picks (inV T (ups V view) k) t.length) = false) (hyes:some3 t (picks (inV T (ups V view) (k + 1)) t.length) = true) :
  T.aheadOf t view = (ups V view).getD k 0:=by
 have hm:=mem_ups.1 (List.getElem_mem hk)
 have hf:=hV.fit _ hm.1
 have hg:(ups V view).getD k 0 = (ups V view)[k]:=getD_at _ hk
 obtain ⟨n,hn⟩:∃ n:Nat,(ups V view).getD k 0 = (n:Int):=⟨((ups V view).getD k 0).toNat,by rw [hg];omega⟩
 rw [hn]
 have hrise:=fun {i j:Nat}=>ups_rise hV.rise (view:=view) (i:=i) (j:=j)
 refine Tab.aheadOf_is (by omega) (by omega) ?_ fun j hj hlt => ?_
 ·show some3 t (picks (T.from' n) t.length) = true
  rw [← hyes]
  exact some3_congr fun i _=>from_inV hT hV (k:=k + 1) (by omega) (by omega) (fun j hj=>by
   rw [← hn]
   rcases Nat.lt_or_eq_of_le (show j≤k by omega) with h | h
   ·have:=hrise h hk;omega
   ·rw [h];omega) (fun j h1 h2=>by rw [← hn];exact hrise (by omega) h2) i
 ·intro ha
  have ha':some3 t (picks (T.from' j) t.length) = true:=ha
  have hsub:some3 t (picks (inV T (ups V view) k) t.length) = true:=Tab.some_mono ht (fun i hi hp=>by
   unfold Tab.from' at hp
   obtain ⟨v,h1,h2,h3⟩:=of_decide_eq_true hp
   have hm:(v:Int)∈ups V view:=mem_ups.2 ⟨by rcases h3 with h3 | h3 <;> exact hV.all _ _ _ h3,by omega⟩
   obtain ⟨a,haa,he⟩:=List.getElem_of_mem hm
   refine decide_eq_true ⟨a, ?_,by rw [getD_at _ haa,he];exact h3⟩
   rcases Nat.lt_or_ge a k with h | h
   ·exact h
   ·exfalso
    have hav:(ups V view).getD a 0 = (v:Int):=by rw [getD_at _ haa,he]
    rcases Nat.lt_or_eq_of_le h with h | h
    ·have:=hrise h haa;omega
    ·subst h;omega) ha'
  rcases hno with rfl | hno
  ·have h0:picks (inV T (ups V view) 0) t.length = []:=List.eq_nil_iff_forall_not_mem.2 fun x hx=>by
    obtain ⟨i,_,hp,_⟩:=mem_picks.1 hx
    obtain ⟨j,hj,_⟩:=of_decide_eq_true hp
    omega
   rw [h0] at hsub
   have:=tot_pos ht
   unfold some3 sumS at hsub
   have hz:ws t (inn []) t.length = 0:=by
    have:∀ n,ws t (inn []) n = 0:=fun n=>by
     induction n with
     | zero=>rfl
     | succ n ih=>rw [ws,ih,inn_nil];simp
    exact this _
   rw [hz] at hsub
   simp only [decide_eq_true_eq] at hsub
   omega
  ·rw [hno] at hsub;cases hsub
theorem ahead_no {T:Tab} {t:List Int} (ht:StOk t) {N:Nat} {V:List Int} (hV:Vws T N V) {view:Int} (hno:(ups V view).length = 0∨some3 t (picks (inV T (ups V view) (ups V view).length) t.length) = false):T.aheadOf t view = view:=by
 refine Tab.aheadOf_self fun j hj hlt ha => ?_
 have ha':some3 t (picks (T.from' j) t.length) = true:=ha
 have hsub:some3 t (picks (inV T (ups V view) (ups V view).length) t.length) = true:=Tab.some_mono ht (fun i hi hp=>by
  unfold Tab.from' at hp
  obtain ⟨v,h1,h2,h3⟩:=of_decide_eq_true hp
  have hm:(v:Int)∈ups V view:=mem_ups.2 ⟨by rcases h3 with h3 | h3 <;> exact hV.all _ _ _ h3,by omega⟩
  obtain ⟨a,haa,he⟩:=List.getElem_of_mem hm
  exact decide_eq_true ⟨a,haa,by rw [getD_at _ haa,he];exact h3⟩) ha'
 rcases hno with h0 | hno
 ·have hz:(ups V view) = []:=List.eq_nil_of_length_eq_zero h0
  rw [hz] at hsub
  have h0:picks (inV T [] 0) t.length = []:=List.eq_nil_iff_forall_not_mem.2 fun x hx=>by
   obtain ⟨i,_,hp,_⟩:=mem_picks.1 hx
   obtain ⟨j,hj,_⟩:=of_decide_eq_true hp
   omega
  rw [show ([]:List Int).length = 0 from rfl,h0] at hsub
  have:=tot_pos ht
  unfold some3 sumS at hsub
  have hz:ws t (inn []) t.length = 0:=by
   have:∀ n,ws t (inn []) n = 0:=fun n=>by
    induction n with
    | zero=>rfl
    | succ n ih=>rw [ws,ih,inn_nil];simp
   exact this _
  rw [hz] at hsub
  simp only [decide_eq_true_eq] at hsub
  omega
 ·rw [hno] at hsub;cases hsub
theorem results_cell1 {P:Program} {fn:Func} {p:Tmp} {ty:TypeId} {tmps:Array Value} {w:World} {g:Nat} {z:Value} (h:fn.results = #[.cell p ty]) (hp:tmps.getD p undef = .pointer (some ⟨g,0,none⟩)) (ha:(isAgg ty).run P w = .ok false w) (hf:Fs w g [z]) :
  (results fn tmps).run P w = .ok z w:=by
 have hc:=hf.cell (i:=0) rfl
 have hp':tmps[p]?.getD undef = .pointer (some ⟨g,0,none⟩):=by simpa using hp
 simp only [results,h]
 simp [hp',go_sem,ha,hc]
theorem Mod.thenE {F:Nat→Prop} {a b c:World} (h:Mod F a b) (k:Ext b c):Mod F a c:=h.trans (k.mod F) fun _ _ h=>h
theorem Mod.thenM {F:Nat→Prop} {a b c:World} (h:Mod F a b) (k:Mod F b c):Mod F a c:=h.trans k fun _ _ h=>h
theorem Mod.thenB {F:Nat→Prop} {a b c:World} (h:Mod F a b) (k:Below a.heap.size b c):Mod F a c:=h.trans (Below.toMod k) fun i hi hj=>absurd hi (by have hj':a.heap.size≤i:=hj;omega)
def ThereIs (w:World) (b n:Nat) (q:Nat→Bool) (c:Nat):Prop := ∃ D,w.ownsMap Tryz.prog 3 tok b c D∧Maps.IsMap D∧∀ x:Int,In64 x→Maps.has D (.int .i64 x) = decide (x∈picks q n)
section
variable {w w':World} {b n c:Nat} {q q':Nat→Bool} {F:Nat→Prop}
theorem ThereIs.mod (h:ThereIs w b n q c) (hm:Mod F w w') (hb:¬ F b):ThereIs w' b n q c:=by obtain ⟨D,h1,h2,h3⟩:=h;exact ⟨D,ownsMap_mod h1 hm hb,h2,h3⟩
theorem ThereIs.ext (h:ThereIs w b n q c) (he:Ext w w'):ThereIs w' b n q c:=h.mod (he.mod fun _=>False) id
theorem ThereIs.lt (h:ThereIs w b n q c):b < w.heap.size:=by obtain ⟨D,h1,_⟩:=h;exact h1.lt
theorem ThereIs.below (h:ThereIs w b n q c) {B:Nat} (hb:Below B w w') (hl:b < B):ThereIs w' b n q c:=h.mod (Below.toMod hb) fun hj=>absurd hl (by have hj':B≤b:=hj;omega)
theorem ThereIs.nil (h:w.ownsMap Tryz.prog 3 tok b 0 (.map [])) (hq:∀ i,i < n→q i = false):ThereIs w b n q 0 :=
 ⟨_,h,Maps.isMap_empty,fun x _=>(decide_eq_false fun hx=>by
  obtain ⟨i,hi,hp,_⟩:=mem_picks.1 hx
  rw [hq i hi] at hp;cases hp).symm⟩
theorem ThereIs.congr (h:ThereIs w b n q c) (hq:∀ i,i < n→q i = q' i):ThereIs w b n q' c:=by
 obtain ⟨D,h1,h2,h3⟩:=h
 refine ⟨D,h1,h2,fun x hx=>(h3 x hx).trans (decide_eq_decide.2 ?_)⟩
 rw [mem_picks,mem_picks]
 exact ⟨fun ⟨i,hi,hp,e⟩=>⟨i,hi,by rw [← hq i hi];exact hp,e⟩,fun ⟨i,hi,hp,e⟩=>⟨i,hi,by rw [hq i hi];exact hp,e⟩⟩
theorem has_put {D:DataW Value} (h:Maps.IsMap D) {i:Nat} {v:DataW Value} (hin:i < n) (hq:∀ x:Int,In64 x→Maps.has D (.int .i64 x) = decide (x∈picks q n)) (hq':∀ j,j < n→q' j = (q j || decide (j = i))) :
  ∀ x:Int,In64 x→Maps.has (D.put (.int .i64 (i:Int)) v) (.int .i64 x) = decide (x∈picks q' n):=by
 intro x hx
 by_cases e:x = (i:Int)
 ·subst e
  rw [Maps.has_put_same h (by trivial)]
  exact (decide_eq_true (mem_picks.2 ⟨i,hin,by rw [hq' i hin];simp,rfl⟩)).symm
 ·rw [Maps.has_put_other (litI_ne e),hq x hx]
  refine decide_eq_decide.2 ?_
  rw [mem_picks,mem_picks]
  constructor
  ·rintro ⟨j,hj,hp,rfl⟩
   exact ⟨j,hj,by rw [hq' j hj,hp];rfl,rfl⟩
  ·rintro ⟨j,hj,hp,rfl⟩
   rw [hq' j hj] at hp
   have:decide (j = i) = false:=decide_eq_false fun h=>e (by rw [h])
   rw [this,Bool.or_false] at hp
   exact ⟨j,hj,hp,rfl⟩
end
def Sp.keysU (b:Nat):Sp := .any (fun v w => ∃ gb,v = .func (.func 98) #[] #[.pointer (some ⟨gb,0,none⟩)]∧Fs w gb [.map (some b)]) fun _ _ _ ⟨gb,h1,h2⟩ he=>⟨gb,h1,h2.ext he⟩
theorem keysR (b:Nat) (w:World):Calls Tryz.prog 81 #[.map (some b)] w fun e w' => ∃ z,e = .returned z∧Ext w w'∧(Sp.keysU b).p z w':=by
 refine (KeysU_any _ _).mono ?_
 rintro e w' ⟨gb,rfl,hf,_,hx⟩
 exact ⟨_,rfl,hx,gb,rfl,hf⟩
theorem sortR {w:World} {v:Value} {b n c:Nat} {q:Nat→Bool} (hv:(Sp.keysU b).p v w) (h:ThereIs w b n q c) (hc:c≤20000) (hn:n≤7):Calls Tryz.prog 75 #[v] w fun e w' => ∃ z,e = .returned z∧Ext w w'∧(Sp.ints (picks q n)).p z w':=by
 obtain ⟨gb,rfl,hf⟩:=hv
 obtain ⟨D,h1,_,h3⟩:=h
 refine (SortedU_any hf h1 hc).mono ?_
 rintro e w' ⟨z,l,rfl,o,hr,hm,hx⟩
 have:l = picks q n:=Rise.eq hr (rise_picks _ _) fun x=>by
  rw [hm]
  constructor
  ·intro hh
   have:=h3 x (has_in64 h1 hh)
   rw [hh] at this
   exact of_decide_eq_true this.symm
  ·intro hh
   have hwf:=picks_wf q n x hh
   rw [h3 x (by unfold In64;omega)]
   exact decide_eq_true hh
 subst this
 exact ⟨z,rfl,hx,o.ints⟩
theorem someR {w:World} {sv u:Value} {t L:List Int} (h:Asked w sv u t L) {q:Bool} (hq:some3 t L = q):Calls Tryz.prog 77 #[sv,u] w fun e w' => ∃ z,e = .returned z∧Ext w w'∧Sp.p (.val (.bool q)) z w':=by
 refine (Some_of h).mono ?_
 rintro e w' ⟨rfl,hx⟩
 exact ⟨_,rfl,hx,by rw [hq];rfl⟩
def qa (T:Tab) (U:List Int) (k a:Nat) (x:Int) (i:Nat):Bool:=inV T U k i || ((decide (1≤a) && T.any 4 x i) || (decide (2≤a) && T.any 5 x i))
theorem qa_zero (T:Tab) (U:List Int) (k:Nat) (x:Int) (i:Nat):inV T U k i = qa T U k 0 x i:=by simp [qa]
theorem qa_two (T:Tab) (U:List Int) (k:Nat) {x:Int} (hx:U.getD k 0 = x) (i:Nat):qa T U k 2 x i = inV T U (k + 1) i:=by rw [inV_succ,hx];simp [qa]
theorem qa_succ (T:Tab) (U:List Int) (k:Nat) {a:Nat} (x:Int) {kd:Int} (ha:a < 2) (hkd:([4,5]:List Int)[a]? = some kd) (i:Nat):(qa T U k a x i || T.any kd x i) = qa T U k (a + 1) x i:=by
 rcases (show a = 0∨a = 1 by omega) with rfl|rfl
 ·injection hkd with hkd
  subst hkd
  simp [qa]
 ·injection hkd with hkd
  subst hkd
  simp [qa,Bool.or_assoc]
def qi (q:Nat→Bool) (L:List Int) (i j:Nat):Bool:=q j || decide ((j:Int)∈L.take i)
theorem qi_zero (q:Nat→Bool) (L:List Int) (j:Nat):q j = qi q L 0 j:=by simp [qi]
theorem qi_succ (q:Nat→Bool) {L:List Int} {i nd:Nat} (hi:i < L.length) (h:L[i] = (nd:Int)) (j:Nat):qi q L (i + 1) j = (qi q L i j || decide (j = nd)):=by
 unfold qi
 rw [List.take_add_one,List.getElem?_eq_getElem hi,h,Bool.or_assoc]
 congr 1
 rw [Bool.eq_iff_iff]
 simp only [Option.toList_some,List.mem_append,List.mem_singleton,Bool.or_eq_true,decide_eq_true_eq]
 rw [Int.ofNat_inj]
theorem qi_all (q:Nat→Bool) {p:Nat→Bool} {n j:Nat} (hj:j < n):qi q (picks p n) (picks p n).length j = (q j || p j):=by
 unfold qi
 congr 1
 rw [List.take_length,Bool.eq_iff_iff,decide_eq_true_iff,mem_picks]
 constructor
 ·rintro ⟨i,hi,hp,e⟩
  have:j = i:=by omega
  rw [this];exact hp
 ·intro hp;exact ⟨j,hj,hp,rfl⟩
end Go.Proofs.YtdoeoncmhaihbaaGreat
