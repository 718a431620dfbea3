/- What holds of a core and of all that was sent, whatever it does: its own votes are those that were sent, why each was cast, what it is locked on. No program. · A message, a tick, a beginning out of a journal: what holds of a core and of all that was sent stays. No program. · A core that begins anew out of what it sent: what is promised holds of it too; so of all cores whatever happens among them. No program. -/
import Derived.Test.YtdoeoncmhaihbaaGreatPk18
import Derived.Test.YtdoeoncmhaihbaaGreatPk05
namespace Go.Proofs.YtdoeoncmhaihbaaGreat
set_option maxRecDepth 100000
structure NodeInv (bad:Nat→Prop) (t:List Int) (me:Nat) (dec:List Int) (view step:Int) (T:Tab) (said:Nat→Option Int) (lv lw:Int) (L:List AcV):Prop where
 st:StOk t
 lt:me < t.length
 nb:¬ bad me
 tab:∀ k w i x,T k w i = some x→(k = 4∨k = 5)∧(0≤w∧w≤1000)∧i < t.length ∧ -1≤x
 own:∀ k w v,(k = 4∨k = 5)→(T k w me = some v ↔ voteA k me dec.length w v∈L)
 oth:∀ k w j v,T k w j = some v→bad j∨voteA k j dec.length w v∈L
 sd:∀ j v,said j = some v→bad j∨DecIn L j dec.length v
 dc:decOf [] (jour me L) = dec
 ixs:∀ k x w v,(k = 4∨k = 5)→voteA k me x w v∈L→x≤dec.length
 rs:0≤step∧step≤3
 rv:0≤view∧view≤1000
 s0:step = 0→∀ k w,T k w me = none
 vws:∀ k w,T k w me≠none→w≤view
 s1:step = 1→∀ k,T k view me = none
 s2:step = 2→T 5 view me = none
 lock:(lw = -1∧∀ w v,T 5 w me = some v→v = -1)∨(T 5 lw me = some lv∧lv ≠ -1∧∀ w v,T 5 w me = some v→v ≠ -1→w≤lw)
section
variable {bad:Nat→Prop} {t:List Int} {me:Nat} {dec:List Int} {view step:Int} {T:Tab} {said:Nat→Option Int} {lv lw:Int} {L:List AcV}
theorem jour_snoc (me:Nat) (L:List AcV) (a:AcV):jour me (L ++ [a]) = jour me L ++ (recV me a).toList:=by
 unfold jour
 rw [List.filterMap_append]
 cases h:recV me a <;> simp [h]
theorem decOf_snoc (d:List Int) (J:List RcV) (r:RcV):decOf d (J ++ [r]) = if r.kd = 6∧r.ix = ((decOf d J).length:Int) then decOf d J ++ [r.vl] else decOf d J:=by
 unfold decOf;rw [List.foldl_append];rfl
theorem decOf_get:∀ (J:List RcV) (d:List Int) (y:Nat) (v:Int),(decOf d J)[y]? = some v→d[y]? = some v∨∃ r∈J,r.kd = 6∧r.ix = (y:Int)∧r.vl = v
 | [],d,y,v,h=>.inl h
 | r :: J,d,y,v,h=>by
  have h':(decOf (if r.kd = 6∧r.ix = (d.length:Int) then d ++ [r.vl] else d) J)[y]? = some v:=h
  rcases decOf_get J _ y v h' with h1 | ⟨q,hq,hr⟩
  ·split at h1
   ·rename_i hc
    by_cases hy:y < d.length
    ·rw [List.getElem?_append_left hy] at h1;exact .inl h1
    ·have:y = d.length:=by
      have:=(List.getElem?_eq_some_iff.1 h1).1
      simp at this;omega
     subst this
     simp at h1
     exact .inr ⟨r,List.mem_cons_self ..,hc.1,hc.2,h1⟩
   ·exact .inl h1
  ·exact .inr ⟨q,List.mem_cons_of_mem _ hq,hr⟩
theorem recV_some {a:AcV} {r:RcV} (h:recV me a = some r):a.to = -1∧a.m.fm = (me:Int)∧4≤a.m.kd∧r = ⟨a.m.kd,a.m.ix,a.m.vw,a.m.vl⟩:=by
 unfold recV at h
 split at h
 ·rename_i hc;injection h with h;exact ⟨hc.1,hc.2.1,hc.2.2,h.symm⟩
 ·cases h
theorem NodeInv.decIn (h:NodeInv bad t me dec view step T said lv lw L) {y:Nat} {v:Int} (hy:dec[y]? = some v):DecIn L me y v:=by
 rw [← h.dc] at hy
 rcases decOf_get _ _ _ _ hy with h1 | ⟨r,hr,h1,h2,h3⟩
 ·simp at h1
 ·unfold jour at hr
  obtain ⟨a,ha,e⟩:=List.mem_filterMap.1 hr
  obtain ⟨_,e2,_,rfl⟩:=recV_some e
  exact ⟨a,ha,h1,e2,h2,h3⟩
theorem NodeInv.snoc (h:NodeInv bad t me dec view step T said lv lw L) {a:AcV} (ha:a.m.fm≠(me:Int)∨a.m.kd = 3∨(a.m.kd = 6∧a.to ≠ -1)∨(a∈L∧(a.m.kd = 4∨a.m.kd = 5))) :
  NodeInv bad t me dec view step T said lv lw (L ++ [a]):=by
 have hv:∀ k x w v,(k = 4∨k = 5)→voteA k me x w v∈L ++ [a]→voteA k me x w v∈L:=by
  intro k x w v hk hm
  rcases List.mem_append.1 hm with hm | hm
  ·exact hm
  ·rw [List.mem_singleton] at hm
   subst hm
   rcases ha with h1 | h1 | h1 | h1
   ·exact absurd rfl h1
   ·have:k = 3:=h1
    omega
   ·have:k = 6:=h1.1
    omega
   ·exact h1.1
 refine { h with own:=fun k w v hk=>(h.own k w v hk).trans ⟨fun m=>List.mem_append_left _ m,hv k _ w v hk⟩,oth:=fun k w j v hm=>(h.oth k w j v hm).imp_right fun m=>List.mem_append_left _ m,sd:=fun j v hm=>(h.sd j v hm).imp_right fun d=>d.mono fun _ m=>List.mem_append_left _ m,dc := ?_,ixs:=fun k x w v hk hm=>h.ixs k x w v hk (hv k x w v hk hm) }
 rw [jour_snoc]
 cases hr:recV me a with
 | none=>simpa using h.dc
 | some r =>
  obtain ⟨e1,e2,e3,rfl⟩:=recV_some hr
  rw [Option.toList_some,decOf_snoc,if_neg]
  ·exact h.dc
  ·intro hc
   have hc1:a.m.kd = 6:=hc.1
   rcases ha with h1 | h1 | h1 | h1
   ·exact h1 e2
   ·omega
   ·exact h1.2 e1
   ·omega
end
def CoD.Inv (bad:Nat→Prop) (L:List AcV) (c:CoD):Prop:=NodeInv bad c.t c.me c.dec c.view c.step c.T c.said c.lv c.lw (L ++ c.out)∧LogInv bad c.t (L ++ c.out)
section
variable {bad:Nat→Prop} {L:List AcV} {c:CoD}
theorem MostB.of {t:List Int} {T:Tab} {k w x:Int} {A:Nat→Prop} (h:T.Mst t k w x) (hA:∀ j,T k w j = some x→A j):MostB t A :=
 ⟨T.has k w x,fun j _ hj=>hA j (Tab.has_iff.1 hj),h⟩
theorem inv_send3 (h:c.Inv bad L) {m:MsV} (hk:m.kd = 3) (hf:m.fm = (c.me:Int)):(c.send m).Inv bad L:=by
 obtain ⟨h1,h2⟩:=h
 have e:L ++ (c.out ++ [⟨-1,m⟩]) = L ++ c.out ++ [⟨-1,m⟩]:=by rw [List.append_assoc]
 unfold CoD.Inv CoD.send
 simp only [e]
 refine ⟨h1.snoc (.inr (.inl hk)),h2.snoc ⟨⟨c.me,hf,h1.lt,h1.nb⟩, ?_, ?_, ?_, ?_, ?_, ?_⟩⟩ <;> (intro q;have q':=hk;simp only at q;omega)
theorem inv_view (h:c.Inv bad L) {w l:Int} (hw:0≤w∧w≤1000) (hv:c.step = 0∨c.view < w):CoD.Inv bad L { c with view:=w,step:=1,left:=l }:=by
 obtain ⟨h1,h2⟩:=h
 have hn:∀ k v,w≤v→c.T k v c.me = none:=by
  intro k v hwv
  rcases hv with h0 | hlt
  ·exact h1.s0 h0 k v
  ·cases hq:c.T k v c.me with
   | none=>rfl
   | some x=>have:=h1.vws k v (by rw [hq];simp);omega
 show NodeInv bad c.t c.me c.dec w 1 c.T c.said c.lv c.lw (L ++ c.out)∧LogInv bad c.t (L ++ c.out)
 refine ⟨{ h1 with rs:=(by decide),rv:=hw,s0:=fun q=>(by cases q),vws:=fun k v hne => ?_,s1:=fun _ k=>hn k w (Int.le_refl _),s2:=fun q=>(by cases q) },h2⟩
 exact Int.not_lt.1 fun hlt=>hne (hn k v (by omega))
theorem inv_enter (h:c.Inv bad L) {w:Int} (hw:0≤w∧w≤1000) (hv:c.step = 0∨c.view < w):(c.enter w).Inv bad L:=by
 unfold CoD.enter
 have hd:(({ c with view:=w }:CoD).to 1).Inv bad L:=inv_view h hw hv
 simp only
 split
 ·exact inv_send3 (show CoD.Inv bad L (CoD.setProp (({ c with view:=w }:CoD).to 1) w (CoD.prop1 (({ c with view:=w }:CoD).to 1))) from hd) rfl rfl
 ·exact hd
theorem inv_cast (h:c.Inv bad L) {k x s lv' lw' l:Int} (hk:k = 4∨k = 5) (hx : -1≤x) (hs:(k = 4∧c.step = 1∧s = 2)∨(k = 5∧c.step = 2∧s = 3))
  (hC:k = 5→x ≠ -1→MostB c.t fun j=>bad j∨voteA 4 j c.idx c.view x∈L ++ c.out)
  (hP:k = 4→x ≠ -1→JP bad c.t (L ++ c.out) c.me c.idx x)
  (hL:(lv' = c.lv∧lw' = c.lw∧(k = 5→x = -1))∨(k = 5∧x ≠ -1∧lv' = x∧lw' = c.view)) :
  CoD.Inv bad L { c with T:=vadd c.t.length c.T k c.view c.me x,out:=c.out ++ [⟨-1,c.vote k x⟩],step:=s,left:=l,lv:=lv',lw:=lw' }:=by
 obtain ⟨h1,h2⟩:=h
 have hno:c.T k c.view c.me = none:=by
  rcases hs with ⟨rfl,h',_⟩ | ⟨rfl,h',_⟩
  ·exact h1.s1 h' 4
  ·exact h1.s2 h'
 have hok:vok c.t.length c.T k c.view c.me x = true:=vok_iff.2 ⟨⟨hk,h1.rv,hx⟩,h1.lt,hno⟩
 have hT:∀ k' w' i',vadd c.t.length c.T k c.view c.me x k' w' i' = if k' = k∧w' = c.view∧i' = c.me then some x else c.T k' w' i':=fun k' w' i'=>by
  rw [vadd_get];simp only [hok,true_and]
 have e:L ++ (c.out ++ [⟨-1,c.vote k x⟩]) = L ++ c.out ++ [voteA k c.me c.idx c.view x]:=by rw [List.append_assoc];rfl
 unfold CoD.Inv
 simp only [e]
 have hin:voteA k c.me c.idx c.view x∈L ++ c.out ++ [voteA k c.me c.idx c.view x]:=by simp
 have hself:∀ k',(k' = 4∨k' = 5)→∀ w v,vadd c.t.length c.T k c.view c.me x k' w c.me = some v ↔ voteA k' c.me c.dec.length w v∈L ++ c.out ++ [voteA k c.me c.idx c.view x]:=by
  intro k' hk' w v
  rw [hT]
  split
  ·rename_i hc
   obtain ⟨rfl,rfl,_⟩:=hc
   constructor
   ·intro q;injection q with q;subst q;exact hin
   ·intro q
    rcases List.mem_append.1 q with q | q
    ·have:=(h1.own k' c.view v hk').2 q
     rw [hno] at this;cases this
    ·rw [List.mem_singleton] at q
     have:=(voteA_inj q).2.2.2.2
     rw [this]
  ·rename_i hc
   rw [h1.own k' w v hk']
   constructor
   ·exact fun m=>List.mem_append_left _ m
   ·intro q
    rcases List.mem_append.1 q with q | q
    ·exact q
    ·rw [List.mem_singleton] at q
     obtain ⟨a1,_,_,a4,_⟩:=voteA_inj q
     exact absurd ⟨a1,a4,rfl⟩ hc
 refine ⟨⟨h1.st,h1.lt,h1.nb, ?_,fun k' w v hk'=>hself k' hk' w v, ?_,fun j v hm=>(h1.sd j v hm).imp_right fun d=>d.mono fun _ m=>List.mem_append_left _ m, ?_, ?_,by omega,h1.rv,fun q=>by omega, ?_,fun q=>by omega, ?_, ?_⟩,h2.snoc ⟨⟨c.me,rfl,h1.lt,h1.nb⟩,fun _=>⟨rfl,rfl,h1.rv,hx⟩, ?_, ?_, ?_, ?_, ?_⟩⟩
 ·intro k' w i v hv
  rw [hT] at hv
  split at hv
  ·rename_i hc
   injection hv with hv
   rw [hc.1,hc.2.1,hc.2.2, ← hv]
   exact ⟨hk,h1.rv,h1.lt,hx⟩
  ·exact h1.tab k' w i v hv
 ·intro k' w j v hv
  rw [hT] at hv
  split at hv
  ·rename_i hc
   injection hv with hv
   rw [hc.1,hc.2.1,hc.2.2, ← hv]
   exact .inr hin
  ·exact (h1.oth k' w j v hv).imp_right fun m=>List.mem_append_left _ m
 ·rw [jour_snoc]
  have:recV c.me (voteA k c.me c.idx c.view x) = some ⟨k,c.idx,c.view,x⟩:=by unfold recV voteA;rw [if_pos ⟨rfl,rfl,by simp only;omega⟩]
  rw [this,Option.toList_some,decOf_snoc,if_neg (fun q=>by have:k = 6:=q.1;omega)]
  exact h1.dc
 ·intro k' y w v hk' hm
  rcases List.mem_append.1 hm with hm | hm
  ·exact h1.ixs k' y w v hk' hm
  ·rw [List.mem_singleton] at hm
   rw [(voteA_inj hm).2.2.1]
   exact Int.le_refl _
 ·intro k' w hne
  rw [hT] at hne
  split at hne
  ·rename_i hc;omega
  ·exact h1.vws k' w hne
 ·intro q
  rcases hs with ⟨rfl,h',_⟩ | ⟨_,_,h'⟩
  ·rw [hT,if_neg (fun q=>by omega)]
   exact h1.s1 h' 5
  ·omega
 ·rcases hL with ⟨rfl,rfl,hx1⟩ | ⟨rfl,hx1,rfl,rfl⟩
  ·rcases h1.lock with ⟨hl,hl2⟩ | ⟨hl,hl2,hl3⟩
   ·refine .inl ⟨hl,fun w v hv => ?_⟩
    rw [hT] at hv
    split at hv
    ·rename_i hc
     injection hv with hv
     rw [← hv]
     exact hx1 hc.1.symm
    ·exact hl2 w v hv
   ·refine .inr ⟨vadd_le _ _ _ _ hl,hl2,fun w v hv hne => ?_⟩
    rw [hT] at hv
    split at hv
    ·rename_i hc
     injection hv with hv
     exact absurd (hv.symm.trans (hx1 hc.1.symm)) hne
    ·exact hl3 w v hv hne
  ·refine .inr ⟨by rw [hT,if_pos ⟨rfl,rfl,rfl⟩],hx1,fun w v hv _ => ?_⟩
   rw [hT] at hv
   split at hv
   ·rename_i hc;omega
   ·exact h1.vws 5 w (by rw [hv];simp)
 ·intro _ i hi v hv
  have hi':c.me = i:=by have:((c.me:Nat):Int) = i:=hi;omega
  subst hi'
  have:=(h1.own k c.view v hk).2 hv
  rw [hno] at this;cases this
 ·intro hk5 hv
  exact hC hk5 hv
 ·intro hk4 _ hv i hi
  have hi':c.me = i:=by have:((c.me:Nat):Int) = i:=hi;omega
  subst hi'
  exact hP hk4 hv
 ·intro hk6
  have:k = 6:=hk6
  omega
 ·intro _ i hi r w hm
  have hi':c.me = i:=by have:((c.me:Nat):Int) = i:=hi;omega
  subst hi'
  exact h1.vws 4 r (by rw [(h1.own 4 r w (.inl rfl)).2 hm];simp)
theorem inv_castTo (h:c.Inv bad L) {k x s:Int} (hk:k = 4∨k = 5) (hx : -1≤x) (hs:(k = 4∧c.step = 1∧s = 2)∨(k = 5∧c.step = 2∧s = 3))
  (hC:k = 5→x = -1) (hP:k = 4→x ≠ -1→JP bad c.t (L ++ c.out) c.me c.idx x):((c.cast k x).to s).Inv bad L:=by
 have hno:c.T k c.view c.me = none:=by
  rcases hs with ⟨rfl,h',_⟩ | ⟨rfl,h',_⟩
  ·exact h.1.s1 h' 4
  ·exact h.1.s2 h'
 unfold CoD.cast
 rw [if_pos (vok_iff.2 ⟨⟨hk,h.1.rv,hx⟩,h.1.lt,hno⟩)]
 exact inv_cast h hk hx hs (fun a b=>absurd (hC a) b) hP (.inl ⟨rfl,rfl,hC⟩)
theorem inv_comm (h:c.Inv bad L) {x:Int} (hx : -1≤x) (hs:c.step = 2) (hC:x ≠ -1→MostB c.t fun j=>bad j∨voteA 4 j c.idx c.view x∈L ++ c.out):(c.comm x).Inv bad L:=by
 unfold CoD.comm CoD.lock
 by_cases hx1:x = -1
 ·rw [if_pos hx1]
  exact inv_castTo h (.inr rfl) hx (.inr ⟨rfl,hs,rfl⟩) (fun _=>hx1) fun q=>by cases q
 ·rw [if_neg hx1]
  unfold CoD.cast
  rw [if_pos (vok_iff.2 ⟨⟨.inr rfl,h.1.rv,hx⟩,h.1.lt,h.1.s2 hs⟩)]
  have:=inv_cast (l:=pat c.view c.base c.most) (lv':=x) (lw':=c.view) h (.inr rfl) hx (.inr ⟨rfl,hs,rfl⟩) (fun _=>hC) (fun q=>by cases q) (.inr ⟨rfl,hx1,rfl,rfl⟩)
  exact this
theorem inv_conclude (h:c.Inv bad L) {v:Int} (hD:(v ≠ -1∧∃ r:Nat,MostB c.t fun j=>bad j∨voteA 5 j c.idx r v∈L ++ c.out)∨SomeB c.t fun j=>bad j∨DecIn (L ++ c.out) j c.idx v):(c.conclude v).Inv bad L:=by
 obtain ⟨h1,h2⟩:=h
 unfold CoD.conclude CoD.rest CoD.Inv
 have e:L ++ (c.out ++ [⟨-1,⟨6,c.me,c.idx,0,v,0⟩⟩]) = L ++ c.out ++ [⟨-1,⟨6,c.me,c.idx,0,v,0⟩⟩]:=by rw [List.append_assoc]
 simp only [e]
 have hv:∀ k x w v',(k = 4∨k = 5)→voteA k c.me x w v'∈L ++ c.out ++ [⟨-1,⟨6,c.me,c.idx,0,v,0⟩⟩]→x≤c.dec.length:=by
  intro k x w v' hk hm
  rcases List.mem_append.1 hm with hm | hm
  ·exact h1.ixs k x w v' hk hm
  ·rw [List.mem_singleton] at hm
   have:k = 6:=congrArg (fun a=>a.m.kd) hm
   omega
 refine ⟨⟨h1.st,h1.lt,h1.nb,fun k w i x q=>(by cases q),fun k w v' hk=>⟨fun q=>(by cases q),fun q => ?_⟩,fun k w j v' q=>(by cases q),fun j v' q=>(by cases q), ?_,fun k x w v' hk hm => ?_,(by decide),(by decide),fun _ _ _=>rfl,fun k w q=>absurd rfl q,fun q=>(by cases q),fun q=>(by cases q), .inl ⟨rfl,fun w v' q=>(by cases q)⟩⟩,h2.snoc ⟨⟨c.me,rfl,h1.lt,h1.nb⟩,fun q => ?_,fun q => ?_,fun q => ?_,fun q => ?_,fun _=>hD,fun q => ?_⟩⟩
 ·have:=hv k _ w v' hk q
  simp at this
  omega
 ·rw [jour_snoc]
  have:recV c.me ⟨-1,⟨6,c.me,c.idx,0,v,0⟩⟩ = some ⟨6,c.idx,0,v⟩:=by unfold recV;rw [if_pos ⟨rfl,rfl,(show (4:Int)≤6 by decide)⟩]
  rw [this,Option.toList_some,decOf_snoc,if_pos ⟨rfl,by rw [h1.dc];rfl⟩,h1.dc]
 ·have:=hv k x w v' hk hm
  simp
  omega
 all_goals (simp at q)
theorem agreed_just (h:c.Inv bad L) {v:Int} (hv:c.agreed = some v):(v ≠ -1∧∃ r:Nat,MostB c.t fun j=>bad j∨voteA 5 j c.idx r v∈L ++ c.out)∨SomeB c.t fun j=>bad j∨DecIn (L ++ c.out) j c.idx v:=by
 unfold CoD.agreed at hv
 cases hc:c.T.commOf c.t with
 | some x =>
  rw [hc] at hv
  have:x = v:=by simpa using hv
  subst this
  obtain ⟨j,_,hj⟩:=Tab.commOf_some hc
  obtain ⟨hm,hne⟩:=(Tab.commAt_iff h.1.st).1 hj
  exact .inl ⟨hne,j,MostB.of hm fun i hi=>h.1.oth 5 j i x hi⟩
 | none =>
  rw [hc,Option.none_or] at hv
  unfold CoD.saidOf at hv
  have hm:=List.min?_mem hv
  unfold CoD.saidAll at hm
  obtain ⟨i,_,hi⟩:=List.mem_filterMap.1 hm
  cases hs:c.said i with
  | none=>rw [hs] at hi;cases hi
  | some y =>
   rw [hs] at hi
   simp only at hi
   split at hi
   ·rename_i h3
    injection hi with hi
    subst hi
    exact .inr ⟨fun j=>decide (c.said j = some y),fun j _ hj=>h.1.sd j y (of_decide_eq_true hj),h3⟩
   ·cases hi
theorem jp_of (h:c.Inv bad L) {x q:Int} (hf:c.free x q = true) (hq:q = -1∨c.T.mostOf c.t 4 q = some x):JP bad c.t (L ++ c.out) c.me c.idx x:=by
 have hf:=of_decide_eq_true hf
 rcases h.1.lock with ⟨_,h2⟩ | ⟨h1,h2,h3⟩
 ·exact .inl fun r0 v0 hm=>h2 r0 v0 ((h.1.own 5 r0 v0 (.inr rfl)).2 hm)
 ·refine .inr ⟨c.lw,c.lv,(h.1.own 5 _ _ (.inr rfl)).1 h1,h2,fun r1 v1 hm hv1=>h3 r1 v1 ((h.1.own 5 r1 v1 (.inr rfl)).2 hm) hv1, ?_⟩
  rcases hf with hf | hf
  ·exact .inl hf
  ·have h0:=(h.1.tab _ _ _ _ h1).2.1.1
   rcases hq with hq | hq
   ·omega
   ·exact .inr ⟨q,hf,MostB.of ((Tab.mostOf_iff h.1.st).1 hq) fun j hj=>h.1.oth 4 q j x hj⟩
theorem most_ge (h:c.Inv bad L) {k w x:Int} (hm:c.T.mostOf c.t k w = some x) : -1≤x:=by
 obtain ⟨i,_,hi⟩:=Tab.Mst.one h.1.st ((Tab.mostOf_iff h.1.st).1 hm)
 exact (h.1.tab _ _ _ _ hi).2.2.2
def PropOk (c:CoD):Prop := ∀ w p,c.prop w = some p → -1≤p.1
theorem inv_step1 (h:c.Inv bad L) (hp:PropOk c) {kn:List Int} {d:CoD} (hd:c.step1 kn = some d):d.Inv bad L:=by
 unfold CoD.step1 at hd
 split at hd
 ·cases hd
 split at hd
 ·rename_i v hv
  injection hd with hd
  subst hd
  exact inv_conclude h (agreed_just h hv)
 split at hd
 ·cases hd
 split at hd
 ·rename_i ha
  injection hd with hd
  subst hd
  exact inv_enter h (ahead_le ha) (.inr ha)
 split at hd
 ·rename_i hs
  unfold CoD.step3 at hd
  split at hd
  ·cases hd
  ·rename_i p hpp
   split at hd
   ·rename_i hc
    injection hd with hd
    subst hd
    unfold CoD.prep
    refine inv_castTo h (.inl rfl) ?_ (.inl ⟨rfl,hs,rfl⟩) (fun q=>by cases q) fun _ hx => ?_
    ·split
     ·exact hp _ _ hpp
     ·decide
    ·split at hx
     ·rename_i hf
      rw [if_pos hf]
      exact jp_of h hf hc.2
     ·exact absurd rfl hx
   ·cases hd
 ·unfold CoD.step45 at hd
  split at hd
  ·cases hd
  ·rename_i x hx
   split at hd
   ·rename_i hs
    split at hd
    ·injection hd with hd
     subst hd
     exact inv_comm h (most_ge h hx) hs fun _=>MostB.of ((Tab.mostOf_iff h.1.st).1 hx) fun j hj=>h.1.oth 4 _ j x hj
    ·cases hd
   ·split at hd
    ·injection hd with hd
     subst hd
     exact h
    ·cases hd
end
end Go.Proofs.YtdoeoncmhaihbaaGreat
namespace Go.Proofs.YtdoeoncmhaihbaaGreat
set_option maxRecDepth 100000
section
variable {bad:Nat→Prop} {N:Int→Prop} {L:List AcV} {c:CoD} {i0:Int} {m:MsV}
theorem inv_hear (h:c.Inv bad L) (hi:m.ix = c.idx) (hm:m.Ok N) (hf:0≤m.fm) (hs:bad m.fm.toNat∨∃ a∈L ++ c.out,a.m = m):(c.hear m).Inv bad L:=by
 unfold CoD.hear
 split
 ·split <;> exact h
 ·rename_i h3
  split
  ·rename_i h6
   split
   ·obtain ⟨h1,h2⟩:=h
    refine ⟨{ h1 with sd:=fun j v hv => ?_ },h2⟩
    simp only at hv
    split at hv
    ·rename_i hj
     injection hv with hv
     rw [hj]
     rcases hs with hb | ⟨a,ha,rfl⟩
     ·exact .inl hb
     ·exact .inr ⟨a,ha,h6,by rw [Int.toNat_of_nonneg hf],hi,hv⟩
    ·exact h1.sd j v hv
   ·exact h
  ·rename_i h6
   have hk:m.kd = 4∨m.kd = 5:=by rcases hm.2 with q | q | q <;> omega
   obtain ⟨h1,h2⟩:=h
   have hv:bad m.fm.toNat∨voteA m.kd m.fm.toNat c.dec.length m.vw m.vl∈L ++ c.out:=by
    rcases hs with hb | ⟨a,ha,rfl⟩
    ·exact .inl hb
    ·have hfm:=h2.form ha hk
     have:a = voteA a.m.kd a.m.fm.toNat c.dec.length a.m.vw a.m.vl:=by
      rw [AcV.eq_iff,MsV.eq_iff]
      refine ⟨hfm.1, ?_⟩
      have e2:a.m.ix = (c.dec.length:Int):=hi
      unfold voteA
      simp only [Int.toNat_of_nonneg hf,e2,hfm.2.1]
     exact .inr (this ▸ ha)
   have hT:∀ k w,vadd c.t.length c.T m.kd m.vw m.fm.toNat m.vl k w c.me = c.T k w c.me:=by
    intro k w
    rw [vadd_get]
    split
    ·rename_i hc
     exfalso
     have hok:=vok_iff.1 hc.1
     rw [← hc.2.2.2] at hv hok
     rcases hv with hb | hv
     ·exact h1.nb hb
     ·have:=(h1.own _ _ _ hk).2 hv
      rw [hok.2.2] at this
      cases this
    ·rfl
   refine ⟨{ h1 with tab:=fun k w i x hx => ?_,own:=fun k w v hk' => ?_,oth:=fun k w j v hx => ?_,s0:=fun q k w => ?_,vws:=fun k w hne => ?_,s1:=fun q k => ?_,s2:=fun q => ?_,lock := ?_ },h2⟩
   ·simp only at hx
    rw [vadd_get] at hx
    split at hx
    ·rename_i hc
     have hok:=vok_iff.1 hc.1
     injection hx with hx
     rw [hc.2.1,hc.2.2.1,hc.2.2.2, ← hx]
     exact ⟨hok.1.1,hok.1.2.1,hok.2.1,hok.1.2.2⟩
    ·exact h1.tab k w i x hx
   ·simp only [hT];exact h1.own k w v hk'
   ·simp only at hx
    rw [vadd_get] at hx
    split at hx
    ·rename_i hc
     injection hx with hx
     rw [hc.2.1,hc.2.2.1,hc.2.2.2, ← hx]
     exact hv
    ·exact h1.oth k w j v hx
   ·simp only [hT];exact h1.s0 q k w
   ·simp only [hT] at hne;exact h1.vws k w hne
   ·simp only [hT];exact h1.s1 q k
   ·simp only [hT];exact h1.s2 q
   ·simp only [hT];exact h1.lock
theorem inv_reply (h:c.Inv bad L) (hx:0≤m.ix∧m.ix < c.idx) (hf:0≤m.fm):CoD.Inv bad L { c with out:=c.out ++ [⟨m.fm,⟨6,c.me,m.ix,0,c.dec.getD m.ix.toNat 0,0⟩⟩] }:=by
 obtain ⟨h1,h2⟩:=h
 have e:L ++ (c.out ++ [⟨m.fm,⟨6,c.me,m.ix,0,c.dec.getD m.ix.toNat 0,0⟩⟩]) = L ++ c.out ++ [⟨m.fm,⟨6,c.me,m.ix,0,c.dec.getD m.ix.toNat 0,0⟩⟩]:=by rw [List.append_assoc]
 unfold CoD.Inv
 simp only [e]
 have hl:m.ix < c.dec.length:=hx.2
 have hj:m.ix.toNat < c.dec.length:=by omega
 refine ⟨h1.snoc (.inr (.inr (.inl ⟨rfl,by simp only;omega⟩))),h2.snoc ⟨⟨c.me,rfl,h1.lt,h1.nb⟩,fun q => ?_,fun q => ?_,fun q => ?_,fun q => ?_,fun _ => ?_,fun q => ?_⟩⟩
 rotate_right 2
 ·have hd:=h1.decIn (List.getElem?_eq_getElem hj)
  rw [Int.toNat_of_nonneg hx.1] at hd
  simp only [List.getD_eq_getElem?_getD,List.getElem?_eq_getElem hj,Option.getD_some]
  exact h2.jD hd
 all_goals (simp at q)
theorem inv_tock (h:c.Inv bad L):c.tock.Inv bad L:=by
 unfold CoD.tock
 split
 ·rename_i h0
  exact inv_enter h (by decide) (.inl h0)
 ·rename_i hs0
  have h':CoD.Inv bad L { c with left:=tck c.left }:=h
  simp only
  split
  ·split
   ·rename_i h1
    exact inv_castTo h' (.inl rfl) (by decide) (.inl ⟨rfl,h1,rfl⟩) (fun q=>by cases q) fun _ q=>absurd rfl q
   ·split
    ·rename_i h2
     exact inv_castTo h' (.inr rfl) (by decide) (.inr ⟨rfl,h2,rfl⟩) (fun _=>rfl) fun q=>by cases q
    ·rename_i h1 h2
     split
     ·rename_i hlt
      have hv0:=h.1.rv.1
      exact inv_enter h' (w:=c.view + 1) ⟨by omega,by omega⟩ (.inr (show c.view < c.view + 1 by omega))
     ·obtain ⟨g1,g2⟩:=h
      exact ⟨{ g1 with rs:=(show (0:Int)≤3∧(3:Int)≤3 by decide),s0:=fun q=>(by cases q),s1:=fun q=>(by cases q),s2:=fun q=>(by cases q) },g2⟩
  ·exact h'
theorem inv_again (h:c.Inv bad L) {k x:Int} (hk:k = 4∨k = 5) (hx:c.T k c.view c.me = some x):(c.send (c.vote k x)).Inv bad L:=by
 obtain ⟨h1,h2⟩:=h
 have hin:voteA k c.me c.idx c.view x∈L ++ c.out:=(h1.own k c.view x hk).1 hx
 have e:L ++ (c.out ++ [⟨-1,c.vote k x⟩]) = L ++ c.out ++ [voteA k c.me c.idx c.view x]:=by rw [List.append_assoc];rfl
 unfold CoD.Inv CoD.send
 simp only [e]
 refine ⟨h1.snoc (.inr (.inr (.inr ⟨hin,hk⟩))),h2.snoc ⟨⟨c.me,rfl,h1.lt,h1.nb⟩,fun _=>h2.form hin hk, ?_, ?_, ?_, ?_, ?_⟩⟩
 ·intro _ i hi v hv
  have hi':c.me = i:=by have:((c.me:Nat):Int) = i:=hi;omega
  subst hi'
  exact h2.once hk hv hin
 ·intro hk5 hv
  have hk5':k = 5:=hk5
  subst hk5'
  exact h2.jC hin hv
 ·intro _ hno
  exact absurd hin hno
 ·intro hk6
  have:k = 6:=hk6
  omega
 ·intro _ i hi r w hm
  have hi':c.me = i:=by have:((c.me:Nat):Int) = i:=hi;omega
  subst hi'
  exact h1.vws 4 r (by rw [(h1.own 4 r w (.inl rfl)).2 hm];simp)
theorem inv_out (M:List MsV):∀ c:CoD,c.Inv bad L→(∀ m∈M,AgOk c m)→CoD.Inv bad L { c with out:=c.out ++ M.map fun m=>(⟨-1,m⟩:AcV) }:=by
 induction M with
 | nil=>intro c h _;rw [out_nil];exact h
 | cons m M ih =>
  intro c h hM
  rw [out_cons]
  refine ih (c.send m) ?_ fun q hq=>hM q (List.mem_cons_of_mem _ hq)
  rcases hM m (List.mem_cons_self ..) with ⟨w,p,hp,rfl,rfl⟩ | ⟨k,x,hk,hx,rfl⟩
  ·exact inv_send3 h rfl rfl
  ·exact inv_again h hk hx
theorem inv_resend (h:c.Inv bad L):c.resend.Inv bad L:=by
 unfold CoD.resend
 split
 ·exact h
 ·exact inv_out _ c h fun m hm=>again_ok c m ((List.mem_filter.1 hm).1)
def Both (bad:Nat→Prop) (N:Int→Prop) (L:List AcV) (i0:Int) (c:CoD):Prop:=c.Inv bad L∧Spk N i0 c
theorem both_settle (h:Both bad N L i0 c) (h0:N 0) (hN:∀ x,N x → -1≤x) (kn:List Int):Both bad N L i0 (c.settle kn) :=
 settle_ind (Both bad N L i0) (fun _ _ hc hd=>⟨inv_step1 hc.1 (fun w p hp=>hN _ (hc.2.1.pr w p hp).1) hd,spk_step1 hc.2 h0 hd⟩) h
theorem both_handle (h:Both bad N L i0 c) (hm:m.Ok N) (h0:N 0) (hN:∀ x,N x → -1≤x) (hf:0≤m.fm) (hs:bad m.fm.toNat∨∃ a∈L,a.m = m) (kn:List Int):Both bad N L i0 (c.handle m kn):=by
 refine ⟨?_,spk_handle h.2 hm h0 hf kn⟩
 unfold CoD.handle
 split
 ·exact h.1
 ·rename_i hc
  split
  ·rename_i hlt
   split
   ·exact h.1
   ·exact inv_reply h.1 ⟨hm.1.1,hlt⟩ hf
  ·rename_i hge
   refine (both_settle ⟨inv_hear h.1 (by omega) hm hf ?_,spk_hear h.2 hm⟩ h0 hN kn).1
   exact hs.imp_right fun ⟨a,ha,e⟩=>⟨a,List.mem_append_left _ ha,e⟩
theorem both_tick (h:Both bad N L i0 c) (h0:N 0) (hN:∀ x,N x → -1≤x) {tip:Int} (ht:N tip) (kn:List Int):Both bad N L i0 (c.tick kn tip):=by
 refine ⟨?_,spk_tick h.2 h0 ht kn⟩
 unfold CoD.tick
 split
 ·exact h.1
 ·rename_i hd
  have h':Both bad N L i0 { c with tip:=tip }:=⟨h.1,spk_tip h.2 ht⟩
  refine inv_resend (both_settle ⟨inv_tock h'.1,spk_tock h'.2 (by show c.dec.length≤1000;omega)⟩ h0 hN kn).1
theorem both_flush (h:Both bad N L i0 c):Both bad N (L ++ c.out) c.idx c.flush:=by
 refine ⟨?_, ?_⟩
 ·have e:L ++ c.out ++ ([]:List AcV) = L ++ c.out:=List.append_nil _
  obtain ⟨h1,h2⟩:=h.1
  unfold CoD.Inv CoD.flush
  simp only [e]
  exact ⟨h1,h2⟩
 ·obtain ⟨h1,_,_⟩:=h.2
  exact ⟨⟨h1.st,h1.lt,h1.tab,h1.rs,h1.rv,h1.dl,h1.di,h1.pr,h1.sd,h1.vv,h1.tp,h1.dc,h1.vw,h1.v0⟩,Int.le_refl _,fun a ha=>by cases ha⟩
end
end Go.Proofs.YtdoeoncmhaihbaaGreat
namespace Go.Proofs.YtdoeoncmhaihbaaGreat
set_option maxRecDepth 100000
section
variable {n me:Nat}
theorem tabV_le:∀ (V:List RcV) (T:Tab),Tab.Le T (V.foldl (fun T r=>vadd n T r.kd r.vw me r.vl) T)
 | [],_=>fun _ _ _ _ h=>h
 | _ :: V,_=>fun k w i x h=>tabV_le V _ k w i x (vadd_le k w i x h)
theorem tabV_from:∀ (V:List RcV) (T:Tab) {k w:Int} {i:Nat} {x:Int},V.foldl (fun T r=>vadd n T r.kd r.vw me r.vl) T k w i = some x→T k w i = some x∨(i = me∧∃ r∈V,r.kd = k∧r.vw = w∧r.vl = x)
 | [],_,_,_,_,_,h=>.inl h
 | r :: V,T,k,w,i,x,h=>by
  rcases tabV_from V _ h with h1 | ⟨h1,q,hq,h2⟩
  ·have h1:vadd n T r.kd r.vw me r.vl k w i = some x:=h1
   rw [vadd_get] at h1
   split at h1
   ·rename_i hc
    injection h1 with h1
    exact .inr ⟨hc.2.2.2,r,List.mem_cons_self ..,hc.2.1.symm,hc.2.2.1.symm,h1⟩
   ·exact .inl h1
  ·exact .inr ⟨h1,q,List.mem_cons_of_mem _ hq,h2⟩
def RcOk (r:RcV):Prop:=(r.kd = 4∨r.kd = 5)∧(0≤r.vw∧r.vw≤1000) ∧ -1≤r.vl
theorem tabV_has:∀ (V:List RcV) (T:Tab),(∀ r∈V,RcOk r)→me < n→∀ r∈V,V.foldl (fun T r=>vadd n T r.kd r.vw me r.vl) T r.kd r.vw me≠none
 | q :: V,T,h,hm,r,hr=>by
  rcases List.mem_cons.1 hr with rfl | hr
  ·have key:vadd n T r.kd r.vw me r.vl r.kd r.vw me≠none:=by
    rw [vadd_get]
    cases hT:T r.kd r.vw me with
    | none =>
     have ho:=h r (List.mem_cons_self ..)
     rw [if_pos ⟨vok_iff.2 ⟨ho,hm,hT⟩,rfl,rfl,rfl⟩]
     simp
    | some x =>
     split
     ·simp
     ·simp
   show V.foldl _ (vadd n T r.kd r.vw me r.vl) r.kd r.vw me≠none
   cases hk:vadd n T r.kd r.vw me r.vl r.kd r.vw me with
   | none=>exact absurd hk key
   | some x=>rw [tabV_le V _ _ _ _ _ hk];simp
  ·exact tabV_has V _ (fun x hx=>h x (List.mem_cons_of_mem _ hx)) hm r hr
theorem tabV_iff {V:List RcV} (hV:∀ r∈V,RcOk r) (hu:∀ r∈V, ∀ q∈V,r.kd = q.kd→r.vw = q.vw→r.vl = q.vl) (hm:me < n) {k w:Int} {i:Nat} {x:Int} :
  tabV n me V k w i = some x ↔ i = me∧∃ r∈V,r.kd = k∧r.vw = w∧r.vl = x:=by
 constructor
 ·intro h
  rcases tabV_from V _ h with h1 | h1
  ·cases h1
  ·exact h1
 ·rintro ⟨rfl,r,hr,rfl,rfl,rfl⟩
  have hne:=tabV_has V T0 hV hm r hr
  cases hx:V.foldl (fun T r=>vadd n T r.kd r.vw i r.vl) T0 r.kd r.vw i with
  | none=>exact absurd hx hne
  | some y =>
   rcases tabV_from V _ hx with h1 | ⟨_,q,hq,e1,e2,e3⟩
   ·cases h1
   ·unfold tabV;rw [hx, ← e3,hu q hq r hr e1 e2]
theorem viewV_spec:∀ (V:List RcV) (m:Int),m≤V.foldl (fun m r=>max m r.vw) m∧(∀ r∈V,r.vw≤V.foldl (fun m r=>max m r.vw) m)∧(V.foldl (fun m r=>max m r.vw) m = m∨∃ r∈V,V.foldl (fun m r=>max m r.vw) m = r.vw)
 | [],m=>⟨Int.le_refl _,by simp, .inl rfl⟩
 | q :: V,m=>by
  obtain ⟨h1,h2,h3⟩:=viewV_spec V (max m q.vw)
  simp only [List.foldl_cons]
  refine ⟨by omega,fun r hr => ?_, ?_⟩
  ·rcases List.mem_cons.1 hr with rfl | hr
   ·omega
   ·exact h2 r hr
  ·rcases h3 with h3 | ⟨r,hr,h3⟩
   ·by_cases hq:m≤q.vw
    ·exact .inr ⟨q,List.mem_cons_self ..,by omega⟩
    ·exact .inl (by omega)
   ·exact .inr ⟨r,List.mem_cons_of_mem _ hr,h3⟩
def lkS (p:Int × Int) (r:RcV):Int × Int:=if r.kd = 5∧r.vl ≠ -1∧p.2 < r.vw then (r.vl,r.vw) else p
theorem lockV_spec:∀ (V:List RcV) (p:Int × Int),p.2≤(V.foldl lkS p).2∧(∀ r∈V,r.kd = 5→r.vl ≠ -1→r.vw≤(V.foldl lkS p).2)∧(V.foldl lkS p = p∨∃ r∈V,r.kd = 5∧r.vl ≠ -1∧V.foldl lkS p = (r.vl,r.vw))
 | [],p=>⟨Int.le_refl _,by simp, .inl rfl⟩
 | q :: V,p=>by
  obtain ⟨h1,h2,h3⟩:=lockV_spec V (lkS p q)
  simp only [List.foldl_cons]
  have hs:p.2≤(lkS p q).2∧(q.kd = 5→q.vl ≠ -1→q.vw≤(lkS p q).2)∧(lkS p q = p∨(q.kd = 5∧q.vl ≠ -1∧lkS p q = (q.vl,q.vw))):=by
   unfold lkS
   split
   ·rename_i hc;exact ⟨Int.le_of_lt hc.2.2,fun _ _=>Int.le_refl _, .inr ⟨hc.1,hc.2.1,rfl⟩⟩
   ·rename_i hc;exact ⟨Int.le_refl _,fun a b=>Int.not_lt.1 fun hlt=>hc ⟨a,b,hlt⟩, .inl rfl⟩
  refine ⟨Int.le_trans hs.1 h1,fun r hr a b => ?_, ?_⟩
  ·rcases List.mem_cons.1 hr with rfl | hr
   ·exact Int.le_trans (hs.2.1 a b) h1
   ·exact h2 r hr a b
  ·rcases h3 with h3 | ⟨r,hr,a,b,h3⟩
   ·rcases hs.2.2 with h4 | ⟨a,b,h4⟩
    ·exact .inl (h3.trans h4)
    ·exact .inr ⟨q,List.mem_cons_self ..,a,b,h3.trans h4⟩
   ·exact .inr ⟨r,List.mem_cons_of_mem _ hr,a,b,h3⟩
theorem lockV_eq (V:List RcV):lockV V = V.foldl lkS (0, -1):=rfl
end
section
variable {bad:Nat→Prop} {N:Int→Prop} {L:List AcV} {c:CoD} {i0:Int}
theorem votV_mem (hL:LogInv bad c.t L) {me:Nat} {x:Int} {r:RcV}:r∈votV x (jour me L) ↔ (r.kd = 4∨r.kd = 5)∧r.ix = x∧voteA r.kd me x r.vw r.vl∈L:=by
 unfold votV
 rw [List.mem_filter,decide_eq_true_iff]
 constructor
 ·rintro ⟨hr,hk,hx⟩
  refine ⟨hk,hx, ?_⟩
  unfold jour at hr
  obtain ⟨a,ha,e⟩:=List.mem_filterMap.1 hr
  obtain ⟨e1,e2,_,rfl⟩:=recV_some e
  have hf:=hL.form ha hk
  have:a = voteA a.m.kd me x a.m.vw a.m.vl:=by
   rw [AcV.eq_iff,MsV.eq_iff]
   have hx':a.m.ix = x:=hx
   refine ⟨e1, ?_⟩
   unfold voteA
   simp only [e2,hx',hf.2.1]
  exact this ▸ ha
 ·rintro ⟨hk,hx,hm⟩
  refine ⟨?_,hk,hx⟩
  unfold jour
  refine List.mem_filterMap.2 ⟨_,hm, ?_⟩
  obtain ⟨k,y,w,v⟩:=r
  simp only at hk hx
  subst hx
  unfold recV voteA
  rw [if_pos ⟨rfl,rfl,by simp only;omega⟩]
theorem both_restore (h:Both bad N L i0 c) (ho:c.out = []) (h0:N 0) (hA:∀ a∈L,a.m.Ok N) :
  Both bad N L c.idx ((CoD.new c.me c.t c.base c.most).restore (jour c.me L)):=by
 obtain ⟨⟨h1,h2⟩,hs⟩:=h
 rw [ho,List.append_nil] at h1 h2
 have hst:=h1.st
 have hd:decOf [] (jour c.me L) = c.dec:=h1.dc
 obtain ⟨V,hV0⟩:∃ V,votV (c.dec.length:Int) (jour c.me L) = V:=⟨_,rfl⟩
 have hVm:∀ r,r∈V ↔ (r.kd = 4∨r.kd = 5)∧r.ix = (c.dec.length:Int)∧voteA r.kd c.me c.dec.length r.vw r.vl∈L:=fun r=>by rw [← hV0];exact votV_mem h2
 have hVok:∀ r∈V,RcOk r:=fun r hr=>by
  obtain ⟨hk,_,hm⟩:=(hVm r).1 hr
  have:=h2.form hm hk
  exact ⟨hk,this.2.2⟩
 have hVu:∀ r∈V, ∀ q∈V,r.kd = q.kd→r.vw = q.vw→r.vl = q.vl:=fun r hr q hq e1 e2=>by
  obtain ⟨hk,_,hm⟩:=(hVm r).1 hr
  obtain ⟨_,_,hm'⟩:=(hVm q).1 hq
  rw [← e1, ← e2] at hm'
  exact h2.once hk hm hm'
 have hT:∀ {k w:Int} {i:Nat} {x:Int},tabV c.t.length c.me V k w i = some x ↔ i = c.me∧∃ r∈V,r.kd = k∧r.vw = w∧r.vl = x:=fun {k w i x}=>tabV_iff hVok hVu h1.lt
 have hsome:∀ {k w:Int},tabV c.t.length c.me V k w c.me≠none→∃ r∈V,r.kd = k∧r.vw = w:=fun {k w} hne=>by
  cases hx:tabV c.t.length c.me V k w c.me with
  | none=>exact absurd hx hne
  | some x=>obtain ⟨_,r,hr,e1,e2,_⟩:=hT.1 hx;exact ⟨r,hr,e1,e2⟩
 obtain ⟨v1,v2,v3⟩:=viewV_spec V 0
 have hvr:0≤viewV V∧viewV V≤1000:=by
  refine ⟨v1, ?_⟩
  rcases v3 with v3 | ⟨r,hr,v3⟩
  ·unfold viewV;omega
  ·have:=(hVok r hr).2.1;unfold viewV;omega
 obtain ⟨l1,l2,l3⟩:=lockV_spec V (0, -1)
 rw [← lockV_eq] at l1 l2 l3
 have hsr:stepV V = 0∧V = []∨stepV V = 3∨(stepV V = 2∧∀ r∈V, ¬ (r.kd = 5∧r.vw = viewV V)):=by
  unfold stepV
  split
  ·rename_i e;exact .inl ⟨rfl,e⟩
  ·split
   ·exact .inr (.inl rfl)
   ·rename_i hne
    refine .inr (.inr ⟨rfl,fun r hr hc=>hne ?_⟩)
    rw [List.any_eq_true]
    exact ⟨r,hr,decide_eq_true hc⟩
 have hnil:V = []→∀ k w i,tabV c.t.length c.me V k w i = none:=fun e k w i=>by rw [e];rfl
 have hlen:V ≠ []→c.dec.length≤1000:=fun hne=>by
  obtain ⟨r,hr⟩:=List.exists_mem_of_ne_nil V hne
  obtain ⟨_,_,hm⟩:=(hVm r).1 hr
  have:(c.dec.length:Int)≤1000:=(hA _ hm).1.2
  omega
 have e:(CoD.new c.me c.t c.base c.most).restore (jour c.me L) = ⟨c.me,c.t,c.base,c.most,c.dec,viewV V,stepV V,if V = [] then 0 else pat (viewV V) c.base c.most,0,tabV c.t.length c.me V,fun _=>none,fun _=>none,(lockV V).1,(lockV V).2,(lockV V).1,(lockV V).2, []⟩:=by
  unfold CoD.restore CoD.new
  simp only
  rw [hd,hV0]
 rw [e]
 refine ⟨⟨?_, ?_⟩,⟨?_,Int.le_refl _,fun a ha=>by cases ha⟩⟩
 ·show NodeInv bad c.t c.me c.dec (viewV V) (stepV V) (tabV c.t.length c.me V) (fun _=>none) (lockV V).1 (lockV V).2 (L ++ [])
  rw [List.append_nil]
  refine ⟨h1.st,h1.lt,h1.nb,fun k w i x hx => ?_,fun k w v hk => ?_,fun k w j v hx => ?_,fun j v q=>(by cases q),hd,h1.ixs, ?_,hvr,fun q k w => ?_,fun k w hne => ?_,fun q k => ?_,fun q => ?_, ?_⟩
  ·obtain ⟨hi,r,hr,rfl,rfl,rfl⟩:=hT.1 hx
   have:=hVok r hr
   exact ⟨this.1,this.2.1,by rw [hi];exact h1.lt,this.2.2⟩
  ·rw [hT]
   constructor
   ·rintro ⟨_,r,hr,rfl,rfl,rfl⟩
    exact ((hVm r).1 hr).2.2
   ·exact fun hm=>⟨rfl,⟨k,c.dec.length,w,v⟩,(hVm _).2 ⟨hk,rfl,hm⟩,rfl,rfl,rfl⟩
  ·obtain ⟨rfl,r,hr,rfl,rfl,rfl⟩:=hT.1 hx
   exact .inr ((hVm r).1 hr).2.2
  ·rcases hsr with ⟨q,_⟩ | q | ⟨q,_⟩ <;> rw [q] <;> decide
  ·rcases hsr with ⟨_,q'⟩ | q' | ⟨q',_⟩
   ·exact hnil q' k w _
   ·omega
   ·omega
  ·obtain ⟨r,hr,_,rfl⟩:=hsome hne
   exact v2 r hr
  ·rcases hsr with ⟨q',_⟩ | q' | ⟨q',_⟩ <;> omega
  ·rcases hsr with ⟨q',_⟩ | q' | ⟨_,q'⟩
   ·omega
   ·omega
   ·cases hx:tabV c.t.length c.me V 5 (viewV V) c.me with
    | none=>rfl
    | some x =>
     obtain ⟨_,r,hr,e1,e2,_⟩:=hT.1 hx
     exact absurd ⟨e1,e2⟩ (q' r hr)
  ·rcases l3 with l3 | ⟨r,hr,a,b,l3⟩
   ·refine .inl ⟨by rw [l3],fun w v hx => ?_⟩
    obtain ⟨_,r,hr,e1,rfl,rfl⟩:=hT.1 hx
    refine Classical.byContradiction fun hne => ?_
    have:=l2 r hr e1 hne
    rw [l3] at this
    have h0':=(hVok r hr).2.1.1
    simp only at this
    omega
   ·rw [l3]
    refine .inr ⟨hT.2 ⟨rfl,r,hr,a,rfl,rfl⟩,b,fun w v hx hv => ?_⟩
    obtain ⟨_,q,hq,e1,rfl,rfl⟩:=hT.1 hx
    have:=l2 q hq e1 hv
    rw [l3] at this
    exact this
 ·show LogInv bad c.t (L ++ [])
  rw [List.append_nil];exact h2
 ·have hN':∀ r∈V,r.vl = -1∨N r.vl:=fun r hr=>by
   obtain ⟨hk,_,hm⟩:=(hVm r).1 hr
   rcases (hA _ hm).2 with q | q | q
   ·have:r.kd = 3:=q.1;omega
   ·exact q.2.1
   ·have:r.kd = 6:=q.1;omega
  refine ⟨h1.st,h1.lt,fun k w i x hx => ?_, ?_,hvr,hs.1.dl,fun q => ?_,fun w p q=>(by cases q),fun j v q=>(by cases q), ?_,h0,hs.1.dc, ?_,fun q => ?_⟩
  ·obtain ⟨hi,r,hr,rfl,rfl,rfl⟩:=hT.1 hx
   have:=hVok r hr
   exact ⟨this.1,this.2.1,by rw [hi];exact h1.lt,hN' r hr⟩
  ·rcases hsr with ⟨q,_⟩ | q | ⟨q,_⟩ <;> simp only [q] <;> decide
  ·refine hlen fun e'=>q ?_
   rcases hsr with ⟨q',_⟩ | q' | ⟨q',_⟩
   ·exact q'
   ·rw [e'] at q';cases q'
   ·rw [e'] at q';cases q'
  ·rcases l3 with l3 | ⟨r,hr,a,b,l3⟩
   ·simp only [l3];exact h0
   ·simp only [l3];exact (hN' r hr).resolve_left b
  ·refine ⟨l1, ?_⟩
   rcases l3 with l3 | ⟨r,hr,a,b,l3⟩
   ·simp only [l3];omega
   ·simp only [l3];exact v2 r hr
  ·rcases hsr with ⟨_,q'⟩ | q' | ⟨q',_⟩
   ·rw [q'];exact ⟨rfl,rfl⟩
   ·simp only at q;omega
   ·simp only at q;omega
end
end Go.Proofs.YtdoeoncmhaihbaaGreat
