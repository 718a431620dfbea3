/- A region that draws its order in which all operations but two only add memory and tell of values alone; the two are the making of a variable and the store of what was told to it (x, ok := f(g(y))). · A region that draws its order in which some operations, each waiting for the one before, change or make what the memory tells (a chain), while the others tell of values alone: 'p.f = g(p.f, []T{x}..)' in whichever order. · Steps for messages and arrays of numbers; within, valueCanBe and nums of package msg. · Same and Copy of package msg. · Whether a number is in a list of numbers (slices.Index, slices.Contains). · What a turn does with messages: what is known, a message filled in, a message sent. -/
import Derived.Test.YtdoeoncmhaihbaaGreatPk11
import Derived.Test.YtdoeoncmhaihbaaGreatPk08
import Derived.Test.YtdoeoncmhaihbaaGreatFB
import Derived.Test.YtdoeoncmhaihbaaGreatPk03
namespace Go.Proofs.YtdoeoncmhaihbaaGreat
set_option maxRecDepth 100000
open Go.RowKit
section
variable {P:Program} {ops:Array Oper} {Q:Exit→Act→World→Prop}
structure IVal (w0:World) (a0:Act) (idx:List Nat) (dst:Nat→Nat) (V:Nat→Value→Prop) (al st:Nat) (zs:List Value) (U:List Value→Prop) (listed:Array Bool) (a:Act) (w:World):Prop where
 sz:a.tmps.size = a0.tmps.size
 df:a.defers = a0.defers
 md:Ext w0 w
 out:∀ t,(∀ i∈idx,t≠dst i)→a.tmps.getD t undef = a0.tmps.getD t undef
 val:∀ i∈idx,i≠al→listed[i]? = some true→V i (a.tmps.getD (dst i) undef)
 cell:listed[al]? = some true→∃ g cs,a.tmps.getD (dst al) undef = .pointer (some ⟨g,0,none⟩)∧w0.heap.size≤g∧Fs w g cs∧(¬ listed[st]? = some true→cs = zs)∧(listed[st]? = some true→U cs)
theorem put_getD {a:Act} {d:Nat} {v:Value} (hd:d < a.tmps.size) (t:Nat):(a.put (some d) v).tmps.getD t undef = if t = d then v else a.tmps.getD t undef:=congrFun (put_slots a d v hd) t
theorem puts_all (a':Act) (dst:Nat→Nat):∀ (idx:List Nat) (a:Act),(∀ i∈idx,dst i < a.tmps.size) →
  (idx.foldl (fun b i=>b.put (some (dst i)) (a'.tmps.getD (dst i) undef)) a).tmps.size = a.tmps.size∧(idx.foldl (fun b i=>b.put (some (dst i)) (a'.tmps.getD (dst i) undef)) a).defers = a.defers ∧
  ∀ t,(idx.foldl (fun b i=>b.put (some (dst i)) (a'.tmps.getD (dst i) undef)) a).tmps.getD t undef = if t∈idx.map dst then a'.tmps.getD t undef else a.tmps.getD t undef
 | [],a,_=>⟨rfl,rfl,fun t=>by simp⟩
 | i :: r,a,h=>by
  have h1:=h i (List.mem_cons_self ..)
  obtain ⟨e1,e2,e3⟩:=puts_all a' dst r (a.put (some (dst i)) (a'.tmps.getD (dst i) undef)) fun j hj=>by rw [Act.put_size];exact h j (List.mem_cons_of_mem _ hj)
  refine ⟨by rw [List.foldl_cons,e1,Act.put_size],by rw [List.foldl_cons,e2,Act.put_defers'],fun t => ?_⟩
  rw [List.foldl_cons,e3 t,put_getD h1,List.map_cons]
  by_cases hm:t∈r.map dst
  ·rw [if_pos hm,if_pos (List.mem_cons_of_mem _ hm)]
  ·rw [if_neg hm]
   by_cases hd:t = dst i
   ·rw [if_pos hd,if_pos (by rw [hd];exact List.mem_cons_self ..),hd]
   ·rw [if_neg hd,if_neg (by intro h;rcases List.mem_cons.1 h with h | h;exact hd h;exact hm h)]
theorem act_eq {a b:Act} (h1:a.tmps.size = b.tmps.size) (h2:a.defers = b.defers) (h3:∀ t,a.tmps.getD t undef = b.tmps.getD t undef):a = b:=by
 obtain ⟨x,d⟩:=a
 obtain ⟨y,e⟩:=b
 simp only at h1 h2 h3
 subst h2
 congr 1
 refine Array.ext h1 fun i hi hj => ?_
 have:=h3 i
 rwa [Array.getD_eq_getD_getElem?,Array.getD_eq_getD_getElem?,Array.getElem?_eq_getElem hi,Array.getElem?_eq_getElem hj] at this
theorem wp_region_val {id:Nat} {a:Act} {w:World} (idx:List Nat) (dst:Nat→Nat) (V:Nat→Value→Prop) (al st:Nat) (zs:List Value) (U:List Value→Prop)
  (hm:P.follows .mixedOrders = true) (hdag:dagB ops = true) (hidx:((List.range ops.size).all fun i=>i == st || idx.contains i) = true) (hal:al∈idx) (hst:st ∉ idx)
  (hinj:(idx.all fun i=>idx.all fun j=>i == j || !(dst i == dst j)) = true) (hlt:∀ i∈idx,dst i < a.tmps.size) (hsa:((ops[st]?).map fun o=>(deps o).contains al).getD false = true) (hss:st < ops.size) (hib:(idx.all fun i=>decide (i < ops.size)) = true)
  (steps:∀ i∈idx,i≠al→∀ (b:Act) (w':World),Ext w w'→(∀ t,(∀ j∈idx,t≠dst j)→b.tmps.getD t undef = a.tmps.getD t undef)→(∀ j,j∈idx→j≠al→((ops[i]?).map fun o=>(deps o).contains j).getD false = true→V j (b.tmps.getD (dst j) undef)) →
   wpOp P ops Q i (fun b' w'' => ∃ x,b' = b.put (some (dst i)) x∧V i x∧Ext w' w'') b w')
  (alloc:∀ (b:Act) (w':World),wpOp P ops Q al (fun b' w'' => ∃ g,b' = b.put (some (dst al)) (.pointer (some ⟨g,0,none⟩))∧w'.heap.size≤g∧Ext w' w''∧Fs w'' g zs) b w')
  (store:∀ (b:Act) (w':World) (g:Nat),Ext w w'→b.tmps.getD (dst al) undef = .pointer (some ⟨g,0,none⟩)→Fs w' g zs→(∀ j,j∈idx→j≠al→((ops[st]?).map fun o=>(deps o).contains j).getD false = true→V j (b.tmps.getD (dst j) undef)) →
   wpOp P ops Q st (fun b' w'' => ∃ us,b' = b∧Mod (fun k=>k = g) w' w''∧Fs w'' g us∧U us) b w')
  (fin:∀ (w':World) (x:Nat→Value),Ext w w'→(∀ i∈idx,i≠al→V i (x i))→(∃ g cs,x al = .pointer (some ⟨g,0,none⟩)∧w.heap.size≤g∧Fs w' g cs∧U cs)→Q .normal (idx.foldl (fun b i=>b.put (some (dst i)) (x i)) a) w') :
  (Code.region id ops true).wp P Q a w:=by
 have hne:∀ i∈idx, ∀ j∈idx,i≠j→dst i≠dst j:=fun i hi j hj hij e=>by
  simp only [List.all_eq_true,Bool.or_eq_true,beq_iff_eq,Bool.not_eq_true',beq_eq_false_iff_ne] at hinj
  exact (hinj i hi j hj).elim hij fun h=>h e
 refine wp_region_inv hm hdag fun w1 hx1=>⟨fun listed b w'=>IVal w a idx dst V al st zs U listed b w',⟨rfl,rfl,hx1,fun _ _=>rfl,fun i _ _ hl => ?_,fun hl => ?_⟩, ?_, ?_⟩
 ·rw [Array.getElem?_replicate] at hl;split at hl <;> simp at hl
 ·rw [Array.getElem?_replicate] at hl;split at hl <;> simp at hl
 ·intro listed b w' i o hls h ho hun hdeps hlater
  have his:=(Array.getElem?_eq_some_iff.1 ho).1
  have hil:i < listed.size:=by omega
  have hL:∀ j,(listed.setIfInBounds i true)[j]? = some true ↔ j = i∨listed[j]? = some true:=fun j=>by
   rw [show ((listed.setIfInBounds i true)[j]? = some true) = (j = i∨listed[j]? = some true) from congrFun (put_listed listed i hil) j]
  have hdep:∀ j,((ops[i]?).map fun o=>(deps o).contains j).getD false = true→listed[j]? = some true:=fun j hb=>by
   rw [ho] at hb
   exact hdeps j (by simpa using hb)
  have hfst:i = al→¬ listed[st]? = some true:=fun e hl=>by
   subst e
   cases hk:ops[st]? with
   | none=>rw [hk] at hsa;cases hsa
   | some ok =>
    rw [hk] at hsa
    rw [hlater st ok hk (by simpa using hsa)] at hl;cases hl
  by_cases hs:i = st
  ·subst hs
   have hla:listed[al]? = some true:=hdep al hsa
   obtain ⟨g,cs,e1,e2,e3,e4,e5⟩:=h.cell hla
   have hnl:¬ listed[i]? = some true:=by rw [hun];simp
   obtain rfl:=e4 hnl
   refine wpOp_mono (fun b' w'' => ?_) (store b w' g h.md e1 e3 fun j hj hja hb=>h.val j hj hja (hdep j hb))
   rintro ⟨us,rfl,hm2,f2,hU⟩
   refine ⟨h.sz,h.df,hm2.after h.md fun k hk=>hk ▸ e2,h.out,fun j hj hja hl=>h.val j hj hja (((hL j).1 hl).resolve_left fun e=>hst (e ▸ hj)),fun _=>⟨g,us,e1,e2,f2,fun hn=>absurd ((hL i).2 (.inl rfl)) hn,fun _=>hU⟩⟩
  have hi:i∈idx:=by
   simp only [List.all_eq_true,List.mem_range,Bool.or_eq_true,beq_iff_eq,List.contains_iff_mem] at hidx
   exact (hidx i his).resolve_left hs
  have hd:dst i < b.tmps.size:=by rw [h.sz];exact hlt i hi
  by_cases ha:i = al
  ·subst ha
   refine wpOp_mono (fun b' w'' => ?_) (alloc b w')
   rintro ⟨g,rfl,hg,hx,f⟩
   refine ⟨by rw [Act.put_size];exact h.sz,by rw [Act.put_defers'];exact h.df,h.md.trans hx,fun t ht => ?_,fun j hj hja hl => ?_,fun _ => ?_⟩
   ·rw [put_getD hd,if_neg (ht i hi)];exact h.out t ht
   ·rw [put_getD hd,if_neg (hne j hj i hi hja)];exact h.val j hj hja (((hL j).1 hl).resolve_left hja)
   ·exact ⟨g,zs,by rw [put_getD hd,if_pos rfl],Nat.le_trans h.md.size hg,f,fun _=>rfl,fun hl=>absurd (((hL st).1 hl).resolve_left fun e=>hst (e ▸ hi)) (hfst rfl)⟩
  ·refine wpOp_mono (fun b' w'' => ?_) (steps i hi ha b w' h.md h.out fun j hj hja hb=>h.val j hj hja (hdep j hb))
   rintro ⟨x,rfl,hv,hx⟩
   refine ⟨by rw [Act.put_size];exact h.sz,by rw [Act.put_defers'];exact h.df,h.md.trans hx,fun t ht => ?_,fun j hj hja hl => ?_,fun hl => ?_⟩
   ·rw [put_getD hd,if_neg (ht i hi)];exact h.out t ht
   ·by_cases hji:j = i
    ·subst hji;rw [put_getD hd,if_pos rfl];exact hv
    ·rw [put_getD hd,if_neg (hne j hj i hi hji)];exact h.val j hj hja (((hL j).1 hl).resolve_left hji)
   ·obtain ⟨g,cs,e1,e2,e3,e4,e5⟩:=h.cell (((hL al).1 hl).resolve_left fun e=>ha e.symm)
    exact ⟨g,cs,by rw [put_getD hd,if_neg (hne al hal i hi fun e=>ha e.symm)];exact e1,e2,e3.ext hx,fun hn=>e4 fun hl=>hn ((hL st).2 (.inr hl)),fun hl=>e5 (((hL st).1 hl).resolve_left fun e=>hs e.symm)⟩
 ·intro listed b w' hall h
  have hlb:∀ i∈idx,listed[i]? = some true:=fun i hi=>by
   simp only [List.all_eq_true,decide_eq_true_eq] at hib
   exact hall i (hib i hi)
  obtain ⟨e1,e2,e3⟩:=puts_all b dst idx a hlt
  have he:b = idx.foldl (fun c i=>c.put (some (dst i)) (b.tmps.getD (dst i) undef)) a:=by
   refine act_eq (by rw [e1];exact h.sz) (by rw [e2];exact h.df) fun t => ?_
   rw [e3 t]
   by_cases hm:t∈idx.map dst
   ·rw [if_pos hm]
   ·rw [if_neg hm]
    exact h.out t fun i hi e=>hm (List.mem_map.2 ⟨i,hi,e.symm⟩)
  rw [he]
  obtain ⟨g,cs,q1,q2,q3,_,q5⟩:=h.cell (hlb al hal)
  exact fin w' (fun i=>b.tmps.getD (dst i) undef) h.md (fun i hi ha=>h.val i hi ha (hlb i hi)) ⟨g,cs,q1,q2,q3,q5 (hall st hss)⟩
end
end Go.Proofs.YtdoeoncmhaihbaaGreat
namespace Go.Proofs.YtdoeoncmhaihbaaGreat
set_option maxRecDepth 100000
open Go.RowKit
section
variable {P:Program} {ops:Array Oper} {Q:Exit→Act→World→Prop}
def dno (no:List Nat) (dn:Nat→Nat) (i:Nat):Option Nat:=if no.contains i then none else some (dn i)
def onB (ops:Array Oper) (i j:Nat):Bool:=((ops[i]?).map fun o=>(deps o).contains j).getD false
structure IChn (a0:Act) (idx wo no:List Nat) (dn:Nat→Nat) (V:Nat→Value→Prop) (J:Nat→Value→World→Prop) (listed:Array Bool) (a:Act) (w:World):Prop where
 sz:a.tmps.size = a0.tmps.size
 df:a.defers = a0.defers
 out:∀ t,(∀ i∈wo ++ idx,t≠dn i)→a.tmps.getD t undef = a0.tmps.getD t undef
 val:∀ i∈idx,listed[i]? = some true→V i (a.tmps.getD (dn i) undef)
 st:∃ k v,k≤wo.length∧(∀ m,m < wo.length→(listed[wo.getD m 0]? = some true ↔ m < k))∧(0 < k→no.contains (wo.getD (k - 1) 0) = false→a.tmps.getD (dn (wo.getD (k - 1) 0)) undef = v)∧J k v w
theorem puts_allO (a':Act) (no:List Nat) (dn:Nat→Nat):∀ (idx:List Nat) (a:Act),(∀ i∈idx,dn i < a.tmps.size) →
  (idx.foldl (fun b i=>b.put (dno no dn i) (a'.tmps.getD (dn i) undef)) a).tmps.size = a.tmps.size∧(idx.foldl (fun b i=>b.put (dno no dn i) (a'.tmps.getD (dn i) undef)) a).defers = a.defers ∧
  ∀ t,(idx.foldl (fun b i=>b.put (dno no dn i) (a'.tmps.getD (dn i) undef)) a).tmps.getD t undef = if t∈(idx.filter fun i => !no.contains i).map dn then a'.tmps.getD t undef else a.tmps.getD t undef
 | [],a,_=>⟨rfl,rfl,fun t=>by simp⟩
 | i :: r,a,h=>by
  by_cases hn:no.contains i = true
  ·have e:dno no dn i = none:=if_pos hn
   obtain ⟨e1,e2,e3⟩:=puts_allO a' no dn r a fun j hj=>h j (List.mem_cons_of_mem _ hj)
   rw [List.foldl_cons,e,show a.put none (a'.tmps.getD (dn i) undef) = a from rfl]
   refine ⟨e1,e2,fun t => ?_⟩
   rw [e3 t,List.filter_cons_of_neg (by rw [hn];decide)]
  ·have e:dno no dn i = some (dn i):=if_neg hn
   have h1:=h i (List.mem_cons_self ..)
   obtain ⟨e1,e2,e3⟩:=puts_allO a' no dn r (a.put (some (dn i)) (a'.tmps.getD (dn i) undef)) fun j hj=>by rw [Act.put_size];exact h j (List.mem_cons_of_mem _ hj)
   rw [List.foldl_cons,e]
   refine ⟨by rw [e1,Act.put_size],by rw [e2,Act.put_defers'],fun t => ?_⟩
   rw [e3 t,put_getD h1,List.filter_cons_of_pos (by rw [show no.contains i = false from Bool.eq_false_iff.2 hn];decide),List.map_cons]
   by_cases hm:t∈(r.filter fun i => !no.contains i).map dn
   ·rw [if_pos hm,if_pos (List.mem_cons_of_mem _ hm)]
   ·rw [if_neg hm]
    by_cases hd:t = dn i
    ·rw [if_pos hd,if_pos (by rw [hd];exact List.mem_cons_self ..),hd]
    ·rw [if_neg hd,if_neg (by intro h;rcases List.mem_cons.1 h with h | h;exact hd h;exact hm h)]
theorem wp_region_chain {id:Nat} {a:Act} {w:World} (idx wo no:List Nat) (dn:Nat→Nat) (V:Nat→Value→Prop) (J:Nat→Value→World→Prop)
  (hm:P.follows .mixedOrders = true) (hdag:dagB ops = true) (hcov:((List.range ops.size).all fun i=>wo.contains i || idx.contains i) = true) (hdis:(idx.all fun i => !(wo.contains i) && !(no.contains i)) = true)
  (hib:((wo ++ idx).all fun i=>decide (i < ops.size)) = true) (hnd:wo.Nodup) (hno:(no.all fun i=>(wo ++ idx).any fun j => !(no.contains j) && dn j == dn i) = true)
  (hinj:((wo ++ idx).all fun i=>(wo ++ idx).all fun j=>i == j || no.contains i || no.contains j || !(dn i == dn j)) = true) (hlt:∀ i∈wo ++ idx,dn i < a.tmps.size)
  (hch:((List.range wo.length).all fun m=>(m + 1 == wo.length) || onB ops (wo.getD (m + 1) 0) (wo.getD m 0)) = true)
  (j0:∀ w1,Ext w w1→J 0 undef w1)
  (steps:∀ i∈idx, ∀ (k:Nat) (v:Value) (b:Act) (w':World),J k v w'→(∀ m,m < wo.length→onB ops (wo.getD m 0) i = true→k≤m)→(∀ m,m < wo.length→onB ops i (wo.getD m 0) = true→m < k) →
   (∀ t,(∀ j∈wo ++ idx,t≠dn j)→b.tmps.getD t undef = a.tmps.getD t undef)→(∀ j,j∈idx→onB ops i j = true→V j (b.tmps.getD (dn j) undef)) →
   wpOp P ops Q i (fun b' w'' => ∃ x,b' = b.put (some (dn i)) x∧V i x∧J k v w'') b w')
  (works:∀ k,k < wo.length→∀ (v:Value) (b:Act) (w':World),J k v w'→(0 < k→no.contains (wo.getD (k - 1) 0) = false→b.tmps.getD (dn (wo.getD (k - 1) 0)) undef = v) →
   (∀ t,(∀ j∈wo ++ idx,t≠dn j)→b.tmps.getD t undef = a.tmps.getD t undef)→(∀ j,j∈idx→onB ops (wo.getD k 0) j = true→V j (b.tmps.getD (dn j) undef)) →
   wpOp P ops Q (wo.getD k 0) (fun b' w'' => ∃ x,b' = b.put (dno no dn (wo.getD k 0)) x∧J (k + 1) x w'') b w')
  (fin:∀ (w':World) (v:Value) (x:Nat→Value),J wo.length v w'→(∀ i∈idx,V i (x i))→(0 < wo.length→no.contains (wo.getD (wo.length - 1) 0) = false→x (wo.getD (wo.length - 1) 0) = v) →
   Q .normal ((wo ++ idx).foldl (fun b i=>b.put (dno no dn i) (x i)) a) w') :
  (Code.region id ops true).wp P Q a w:=by
 simp only [List.all_eq_true,Bool.or_eq_true,Bool.and_eq_true,beq_iff_eq,Bool.not_eq_true',beq_eq_false_iff_ne,List.mem_range,decide_eq_true_eq] at hcov hdis hib hinj hch
 have hne:∀ i∈wo ++ idx, ∀ j∈wo ++ idx,i≠j→no.contains i = false→no.contains j = false→dn i≠dn j:=fun i hi j hj hij n1 n2 e=>by
  rcases hinj i hi j hj with ((h | h) | h) | h
  ·exact hij h
  ·rw [n1] at h;cases h
  ·rw [n2] at h;cases h
  ·exact h e
 have hwm:∀ m,m < wo.length→wo.getD m 0∈wo:=fun m hm=>by
  rw [List.getD_eq_getElem?_getD,List.getElem?_eq_getElem hm];exact List.getElem_mem hm
 have hwi:∀ m n,m < wo.length→n < wo.length→wo.getD m 0 = wo.getD n 0→m = n:=fun m n hm hn e=>by
  rw [List.getD_eq_getElem?_getD,List.getD_eq_getElem?_getD,List.getElem?_eq_getElem hm,List.getElem?_eq_getElem hn] at e
  exact (List.getElem_inj hnd).1 e
 refine wp_region_inv hm hdag fun w1 hx1=>⟨fun listed b w'=>IChn a idx wo no dn V J listed b w',⟨rfl,rfl,fun _ _=>rfl,fun i _ hl => ?_,0,undef,Nat.zero_le _,fun m hm=>⟨fun hl => ?_,fun h=>absurd h (by omega)⟩,fun h=>absurd h (by omega),j0 w1 hx1⟩, ?_, ?_⟩
 ·rw [Array.getElem?_replicate] at hl;split at hl <;> simp at hl
 ·rw [Array.getElem?_replicate] at hl;split at hl <;> simp at hl
 ·intro listed b w' i o hls h ho hun hdeps hlater
  have his:=(Array.getElem?_eq_some_iff.1 ho).1
  have hil:i < listed.size:=by omega
  have hL:∀ j,(listed.setIfInBounds i true)[j]? = some true ↔ j = i∨listed[j]? = some true:=fun j=>by
   rw [show ((listed.setIfInBounds i true)[j]? = some true) = (j = i∨listed[j]? = some true) from congrFun (put_listed listed i hil) j]
  have hdep:∀ j,onB ops i j = true→listed[j]? = some true:=fun j hb=>by
   rw [onB,ho] at hb
   exact hdeps j (by simpa using hb)
  have hlat:∀ k,onB ops k i = true→¬ listed[k]? = some true:=fun k hb hl=>by
   cases hk:ops[k]? with
   | none=>rw [onB,hk] at hb;cases hb
   | some ok =>
    rw [onB,hk] at hb
    rw [hlater k ok hk (by simpa using hb)] at hl;cases hl
  have hunl:¬ listed[i]? = some true:=by rw [hun];simp
  obtain ⟨k,v,hk,hkl,hkv,hJ⟩:=h.st
  by_cases hw:i∈wo
  ·obtain ⟨m,hml,hme⟩:=List.getElem_of_mem hw
   have hmi:wo.getD m 0 = i:=by rw [List.getD_eq_getElem?_getD,List.getElem?_eq_getElem hml];exact hme
   have hkm:k = m:=by
    have h1:k≤m:=by
     rcases Nat.lt_or_ge m k with h2 | h2
     ·exact absurd ((hkl m hml).2 h2) (by rw [hmi];exact hunl)
     ·exact h2
    rcases Nat.lt_or_ge k m with h2 | h2
    ·obtain ⟨q,rfl⟩:∃ q,m = q + 1:=⟨m - 1,by omega⟩
     have h3:=(hch q (by omega)).resolve_left (by omega)
     rw [hmi] at h3
     have:=(hkl q (by omega)).1 (hdep _ h3)
     omega
    ·omega
   subst hkm
   have hwk:=works k hml v b w' hJ hkv h.out fun j hj hb=>h.val j hj (hdep j (by rw [← hmi];exact hb))
   rw [hmi] at hwk
   refine wpOp_mono (fun b' w'' => ?_) hwk
   rintro ⟨x,rfl,hJ'⟩
   have hd:dn i < b.tmps.size:=by rw [h.sz];exact hlt i (List.mem_append_left _ hw)
   have hki:∀ m',m' < wo.length→((listed.setIfInBounds i true)[wo.getD m' 0]? = some true ↔ m' < k + 1):=fun m' hm'=>by
    rw [hL,hkl m' hm']
    constructor
    ·rintro (e | e)
     ·have:=hwi m' k hm' hml (e.trans hmi.symm);omega
     ·omega
    ·intro e
     rcases Nat.lt_or_ge m' k with h2 | h2
     ·exact .inr h2
     ·have:m' = k:=by omega
      exact .inl (by rw [this,hmi])
   by_cases hn:no.contains i = true
   ·rw [show dno no dn i = none from if_pos hn,show b.put none x = b from rfl]
    refine ⟨h.sz,h.df,h.out,fun j hj hl=>h.val j hj (((hL j).1 hl).resolve_left fun e => ?_),k + 1,x,hml,hki,fun _ hc => ?_,hJ'⟩
    ·have:=(hdis j hj).1
     rw [e] at this
     rw [List.contains_iff_mem.2 hw] at this;cases this
    ·rw [Nat.add_sub_cancel,hmi,hn] at hc;cases hc
   ·have hn':no.contains i = false:=by simpa using hn
    rw [show dno no dn i = some (dn i) from if_neg hn]
    refine ⟨by rw [Act.put_size];exact h.sz,by rw [Act.put_defers'];exact h.df,fun t ht => ?_,fun j hj hl => ?_,k + 1,x,hml,hki,fun _ _ => ?_,hJ'⟩
    ·rw [put_getD hd,if_neg (ht i (List.mem_append_left _ hw))];exact h.out t ht
    ·have hji:j≠i:=fun e=>by
      have:=(hdis j hj).1
      rw [e,List.contains_iff_mem.2 hw] at this;cases this
     rw [put_getD hd,if_neg (hne j (List.mem_append_right _ hj) i (List.mem_append_left _ hw) hji (hdis j hj).2 hn')]
     exact h.val j hj (((hL j).1 hl).resolve_left hji)
    ·rw [Nat.add_sub_cancel,hmi,put_getD hd,if_pos rfl]
  ·have hi:i∈idx:=by
    have:=hcov i his
    rcases this with h1 | h1
    ·exact absurd (List.contains_iff_mem.1 h1) hw
    ·exact List.contains_iff_mem.1 h1
   have hd:dn i < b.tmps.size:=by rw [h.sz];exact hlt i (List.mem_append_right _ hi)
   refine wpOp_mono (fun b' w'' => ?_) (steps i hi k v b w' hJ (fun m hm hb => ?_) (fun m hm hb=>(hkl m hm).1 (hdep _ hb)) h.out fun j hj hb=>h.val j hj (hdep j hb))
   rotate_left
   ·rcases Nat.lt_or_ge m k with h2 | h2
    ·exact absurd ((hkl m hm).2 h2) (hlat _ hb)
    ·exact h2
   rintro ⟨x,rfl,hv,hJ'⟩
   refine ⟨by rw [Act.put_size];exact h.sz,by rw [Act.put_defers'];exact h.df,fun t ht => ?_,fun j hj hl => ?_,k,v,hk,fun m hm => ?_,fun h0 hc => ?_,hJ'⟩
   ·rw [put_getD hd,if_neg (ht i (List.mem_append_right _ hi))];exact h.out t ht
   ·by_cases hji:j = i
    ·subst hji;rw [put_getD hd,if_pos rfl];exact hv
    ·rw [put_getD hd,if_neg (hne j (List.mem_append_right _ hj) i (List.mem_append_right _ hi) hji (hdis j hj).2 (hdis i hi).2)]
     exact h.val j hj (((hL j).1 hl).resolve_left hji)
   ·rw [hL, ← hkl m hm]
    exact ⟨fun e=>e.resolve_left fun e=>hw (e ▸ hwm m hm), .inr⟩
   ·have hm1:=hwm (k - 1) (by omega)
    rw [put_getD hd,if_neg (hne _ (List.mem_append_left _ hm1) i (List.mem_append_right _ hi) (fun e=>hw (e ▸ hm1)) hc (hdis i hi).2)]
    exact hkv h0 hc
 ·intro listed b w' hall h
  obtain ⟨k,v,hk,hkl,hkv,hJ⟩:=h.st
  have hkf:k = wo.length:=by
   rcases Nat.lt_or_ge k wo.length with h2 | h2
   ·have:=(hkl k h2).1 (hall _ (hib _ (List.mem_append_left _ (hwm k h2))))
    omega
   ·omega
  subst hkf
  obtain ⟨e1,e2,e3⟩:=puts_allO b no dn (wo ++ idx) a hlt
  have he:b = (wo ++ idx).foldl (fun c i=>c.put (dno no dn i) (b.tmps.getD (dn i) undef)) a:=by
   refine act_eq (by rw [e1];exact h.sz) (by rw [e2];exact h.df) fun t => ?_
   rw [e3 t]
   by_cases hm:t∈((wo ++ idx).filter fun i => !no.contains i).map dn
   ·rw [if_pos hm]
   ·rw [if_neg hm]
    refine h.out t fun i hi e=>hm ?_
    by_cases hn:no.contains i = true
    ·simp only [List.all_eq_true,List.any_eq_true,Bool.and_eq_true,beq_iff_eq] at hno
     obtain ⟨j,hj,hj1,hj2⟩:=hno i (List.contains_iff_mem.1 hn)
     exact List.mem_map.2 ⟨j,List.mem_filter.2 ⟨hj,hj1⟩,hj2.trans e.symm⟩
    ·exact List.mem_map.2 ⟨i,List.mem_filter.2 ⟨hi,by simpa using hn⟩,e.symm⟩
  rw [he]
  exact fin w' v (fun i=>b.tmps.getD (dn i) undef) hJ (fun i hi=>h.val i hi (hall i (hib i (List.mem_append_right _ hi)))) hkv
theorem w_mvC {rest:List Oper} {o:Oper} {a:Act} {w:World} {v:Value} (x:Operand) (hgd:o.guard = none) (ho:o.op = .move x∨o.op = .assign x) (hv:a.eval x = v) (k:wpList P ops Q rest (a.put o.dst v) w):wpList P ops Q (o :: rest) a w:=by
 refine wpList_runs hgd ?_ k
 unfold Runs execOp
 rcases ho with ho | ho <;> simp [ho,hv]
theorem w_nilC {rest:List Oper} {o:Oper} {a:Act} {w:World} (x:Operand) {A:Addr} (hgd:o.guard = none) (ho:o.op = .nilCheck x) (hv:a.eval x = .pointer (some A)) (k:wpList P ops Q rest (a.put o.dst (.pointer (some A))) w):wpList P ops Q (o :: rest) a w :=
 wpList_runs hgd (runs_nil x ho hv) k
end
end Go.Proofs.YtdoeoncmhaihbaaGreat
namespace Go.Proofs.YtdoeoncmhaihbaaGreat
set_option maxRecDepth 100000
open Go.RowKit
section
variable {ops:Array Oper} {rest:List Oper} {o:Oper} {a:Act} {Q:Exit→Act→World→Prop} {w:World}
theorem runs_mbuild {ρ:Operand→Value} {ps:Array (Nat × Operand)} (us:List Value) (ho:o.op = .build 42 ps)
  (hps:((ps.toList.map fun x=>(x.1, ρ x.2)).foldl (fun acc p=>acc.set p.1 p.2) mZero) = us) (hone:∀ p∈ps.toList,p.1 < 6∧(ρ p.2).cells = #[ρ p.2]):Runs Tryz.prog o ρ w (.agg us.toArray):=by
 have hb:=run_mbuild (w:=w) (ps.toList.map fun x=>(x.1, ρ x.2)) (ps.map fun x=>(x.1, ρ x.2)) (by simp) (fun p hp=>by
  obtain ⟨q,hq,rfl⟩:=List.mem_map.1 hp
  exact hone q hq) us hps
 unfold Runs execOp
 rw [ho]
 show ((do pure (.value (← Instr.build 42 (ps.map fun x=>(x.1, ρ x.2)))):Sem Next)).run Tryz.prog w = _
 rw [Sem.run_bind,hb]
 rfl
theorem w_mbuild {ps:Array (Nat × Operand)} (us:List Value) (hgd:o.guard = none) (ho:o.op = .build 42 ps)
  (hps:((ps.toList.map fun x=>(x.1,a.eval x.2)).foldl (fun acc p=>acc.set p.1 p.2) mZero) = us) (hone:∀ p∈ps.toList,p.1 < 6∧(a.eval p.2).cells = #[a.eval p.2])
  (k:wpList Tryz.prog ops Q rest (a.put o.dst (.agg us.toArray)) w):wpList Tryz.prog ops Q (o :: rest) a w:=wpList_runs hgd (runs_mbuild us ho hps hone) k
theorem w_6build {ps:Array (Nat × Operand)} (us:List Value) (hgd:o.guard = none) (ho:o.op = .build 132 ps)
  (hps:((ps.toList.map fun x=>(x.1,a.eval x.2)).foldl (fun acc p=>acc.set p.1 p.2) [.int .i64 0, .int .i64 0, .int .i64 0, .int .i64 0, .int .i64 0, .int .i64 0]) = us) (hone:∀ p∈ps.toList,p.1 < 6∧(a.eval p.2).cells = #[a.eval p.2])
  (k:wpList Tryz.prog ops Q rest (a.put o.dst (.agg us.toArray)) w):wpList Tryz.prog ops Q (o :: rest) a w:=by
 refine wpList_runs hgd ?_ k
 obtain ⟨i0,hi,hz,hs⟩:=Tryz.ag6.info
 have hfill:=fill_st (ps.toList.map fun x=>(x.1,a.eval x.2)) [.int .i64 0, .int .i64 0, .int .i64 0, .int .i64 0, .int .i64 0, .int .i64 0] (fun i=>some (i * 1,1)) fun p hp=>by
  obtain ⟨q,hq,rfl⟩:=List.mem_map.1 hp
  obtain ⟨h1,h2⟩:=hone q hq
  exact ⟨by simp,h1,h2⟩
 rw [hps] at hfill
 have hpl:(ps.map fun x=>(x.1,a.eval x.2)).toList = ps.toList.map fun x=>(x.1,a.eval x.2):=by simp
 unfold Runs execOp
 rw [ho]
 show ((do pure (.value (← Instr.build 132 (ps.map fun x=>(x.1,a.eval x.2)))):Sem Next)).run Tryz.prog w = _
 have hb:(Instr.build 132 (ps.map fun x=>(x.1,a.eval x.2))).run Tryz.prog w = .ok (.agg us.toArray) w:=by
  unfold Instr.build
  have hzv:(zeroValue 132).run Tryz.prog w = .ok (.agg [Value.int .i64 0, .int .i64 0, .int .i64 0, .int .i64 0, .int .i64 0, .int .i64 0].toArray) w:=by simp [zeroValue,typeInfo,hi,hz]
  rw [Sem.run_bind,hzv,Result.andThen_ok]
  dsimp only
  rw [Sem.run_bind,run_underlying Tryz.underlying132,Result.andThen_ok]
  simp only [Sem.run_bind,Tryz.sizeOf3,Result.andThen_ok,Value.cells,hpl]
  rw [hfill]
  rfl
 rw [Sem.run_bind,hb]
 rfl
theorem eqItems_ints {P:Program} {w:World} {ty:TypeId} (hu:P.underlying ty = some (.int .i64)) (hc:P.cellsOf ty = 1) (d:Nat) (xs ys:List Int) (hl:xs.length = ys.length):∀ (m k:Nat),k + m = xs.length →
  (Op.eqItems (d + 1) ty (P.cellsOf ty) (xs.map (Value.int .i64)).toArray (ys.map (Value.int .i64)).toArray (List.range' k m)).run P w = .ok (decide (xs.drop k = ys.drop k)) w
 | 0,k,h1=>by
  rw [List.drop_of_length_le (by omega),List.drop_of_length_le (by omega)]
  simp [Op.eqItems]
 | m + 1,k,h1=>by
  have hk1:k < xs.length:=by omega
  have hk2:k < ys.length:=by omega
  have ih:=eqItems_ints (P:=P) (w:=w) hu hc d xs ys hl m (k + 1) (by omega)
  have hag:∀ w:World,(isAgg ty).run P w = .ok false w:=fun w=>by simp [isAgg,run_underlying hu]
  have p1:(part ty (xs.map (Value.int .i64)).toArray (k * P.cellsOf ty)).run P w = .ok (.int .i64 xs[k]) w:=by
   rw [hc];unfold part;simp [hag,hk1]
  have p2:(part ty (ys.map (Value.int .i64)).toArray (k * P.cellsOf ty)).run P w = .ok (.int .i64 ys[k]) w:=by
   rw [hc];unfold part;simp [hag,hk2]
  have e1:(Op.equalIn (d + 1) ty (.int .i64 xs[k]) (.int .i64 ys[k])).run P w = .ok (xs[k] == ys[k]) w:=run_equalIn_int w d ty .i64 .i64 xs[k] ys[k] hu
  rw [List.range'_succ]
  simp only [Op.eqItems,Sem.run_bind,p1,p2,e1,Result.andThen_ok]
  have dx:xs.drop k = xs[k] :: xs.drop (k + 1):=List.drop_eq_getElem_cons hk1
  have dy:ys.drop k = ys[k] :: ys.drop (k + 1):=List.drop_eq_getElem_cons hk2
  rw [dx,dy]
  by_cases he:xs[k] = ys[k]
  ·have hb:(xs[k] == ys[k]) = true:=by rw [beq_iff_eq];exact he
   rw [hb]
   simp only [Bool.not_true,Bool.false_eq_true,if_false,ih,he,List.cons.injEq,true_and]
  ·have hb:(xs[k] == ys[k]) = false:=by rw [beq_eq_false_iff_ne];exact he
   rw [hb]
   simp only [Bool.not_false,if_true,Sem.run_pure,he,List.cons.injEq,false_and,decide_false]
theorem Tryz.sixGuard:Tryz.prog.eqGuardType Tryz.prog.depth 132 = false:=by kernel_rfl
theorem runs_sixeq {ρ:Operand→Value} (x y:Operand) (l m:List Int) (ho:o.op = .binOp .eql 132 x y 132) (hx : ρ x = .agg (i64s l).toArray) (hy : ρ y = .agg (i64s m).toArray) (hl:l.length = 6) (hm:m.length = 6) {b:Bool} (hb:decide (l = m) = b):Runs Tryz.prog o ρ w (.bool b):=by
 obtain ⟨i,hi⟩:=info_of_underlying Tryz.underlying3
 have hq:(Op.equalIn 10000 132 (.agg (i64s l).toArray) (.agg (i64s m).toArray)).run Tryz.prog w = .ok (decide (l = m)) w:=by
  rw [run_equalIn_array w 9999 _ _ Tryz.underlying132 hi,List.range_eq_range']
  exact eqItems_ints Tryz.underlying3 (by kernel_rfl) 9998 l m (by omega) 6 0 (by omega)
 subst hb
 unfold Runs execOp
 simp only [ho,hx,hy,Sem.run_bind,run_eqGuard_agg w _ _ _ _ _ _ Tryz.sixGuard,Result.andThen_ok,run_eql_struct,hq,Sem.run_pure]
end
set_option maxHeartbeats 800000 in
theorem nums_any (d:MsgD) (u:Value) (w:World):Calls Tryz.prog 84 #[.agg (mRow d u).toArray] w fun e w'=>e = .returned (.agg (i64s d.nums).toArray)∧Ext w w':=by
 refine z2rz ?_
 go_enter Tryz.func84,Tryz.ntmps84
 go_wp2_with ((first | (refine z1sz ?_;intro g1 w1 hg1 hX f1) | ((with_reducible refine at_alloc ?_);refine w_agalloc Tryz.ag6 rfl rfl ?_;intro g2 w2 hg2 hx2 f2;replace hg2:=Nat.le_trans hX.size hg2;replace f1:=f1.ext hx2;replace hX:=hX.trans hx2;clear hx2) | refine zwz ?_ | (refine z4rz ?_;refine w_6build (i64s d.nums) rfl rfl rfl (by intro p hp;simp at hp;rcases hp with rfl|rfl|rfl|rfl|rfl|rfl <;> exact ⟨by decide,rfl⟩) ?_) | ((with_reducible refine at_store ?_);refine w_agput Tryz.ag6 (us:=i64s d.nums) _ _ rfl rfl rfl rfl rfl f2 rfl rfl (i64s_one _) ?_;intro w9 hm f2';replace f2:=f2';replace hX:=hm.after hX (fun i e=>e ▸ hg2);clear hm f2') | ((with_reducible refine at_load ?_);(try refine w_yes _ _ _ rfl rfl rfl ?_);refine w_fload _ rfl rfl rfl f1 rfl (agg_of (by kernel_rfl)) ?_) | fail) <;> (try refine z0z ?_))
 exact bodyPost_ret (ag_one Tryz.ag6 rfl rfl f2 rfl) rfl (Keep.intro ⟨rfl,hX⟩)
end Go.Proofs.YtdoeoncmhaihbaaGreat
namespace Go.Proofs.YtdoeoncmhaihbaaGreat
set_option maxHeartbeats 3200000
set_option maxRecDepth 100000
open Go.RowKit
theorem numsR (d:MsgD) (u:Value) (w:World):Calls Tryz.prog 84 #[.agg (mRow d u).toArray] w fun e w' => ∃ v',e = .returned v'∧Ext w w'∧Sp.p (.val (.agg (i64s d.nums).toArray)) v' w':=by
 refine (nums_any d u w).mono ?_
 rintro e w' ⟨rfl,hx⟩;exact ⟨_,rfl,hx,rfl⟩
theorem bsameR {w:World} {u u2:Value} {b b2:BlkD} (h1:Recs 2 TxR w u b.txs) (h2:Recs 2 TxR w u2 b2.txs) {q:Bool} (h:b.same b2 = q):Calls Tryz.prog 85 #[.agg (bRw b u).toArray, .agg (bRw b2 u2).toArray] w fun e w' => ∃ v',e = .returned v'∧Ext w w'∧Sp.p (.val (.bool q)) v' w':=by
 refine (BSame_any h1 h2).mono ?_
 rintro e w' ⟨rfl,hx⟩;exact ⟨_,rfl,hx,by rw [h];rfl⟩
theorem MSame_any {w:World} {u1 u2:Value} {a b:MsgD} (h1:Recs 2 TxR w u1 a.bk.txs) (h2:Recs 2 TxR w u2 b.bk.txs):Calls Tryz.prog 69 #[.agg (mRow a u1).toArray, .agg (mRow b u2).toArray] w fun e w'=>e = .returned (.bool (decide (a = b)))∧Ext w w':=by
 refine z2rz ?_
 replace h1:=hide_ h1
 replace h2:=hide_ h2
 have hiff:a = b ↔ a.nums = b.nums∧a.tx = b.tx∧a.bk = b.bk:=MsgD.eq_iff
 by_cases e1:a.nums = b.nums
 rotate_left
 ·have t1:=decide_eq_false e1
  have hdec:=hide_ (show decide (a = b) = false from decide_eq_false fun h=>e1 (hiff.1 h).1)
  clear hiff e1
  go_enter Tryz.func69,Tryz.ntmps69
  go_wp2_with ((first | (refine z4yz ?_;intro g1 w1 hg1 hX f1) | (refine z4zz ?_;intro g2 w2 hg2 hx2 f2;replace f1:=f1.ext hx2;replace hX:=hX.trans hx2;clear hx2) | fail) <;> (try refine z0z ?_))
  refine zmz ?_;intro wd hxd;replace f1:=f1.ext hxd;replace f2:=f2.ext hxd;replace hX:=hX.trans hxd
  refine Ph.rest 0 20 (by kernel_rfl) ?_
  refine LinL.step (s:=(.val (.agg (mRow a u1).toArray))) [(2,none)] rfl (by kernel_rfl) (op_runs rfl fun σ w' hx hg=>⟨_,runs_loadN (ρ := σ.eval) (w:=w') (us:=mRow a u1) Tryz.stMsg (.tmp 2) rfl hg.1 (f1.ext hx) rfl mself_at,rfl⟩) ?_
  refine LinL.step (s:=(.val (.agg (i64s a.nums).toArray))) [(5,some 0)] rfl (by kernel_rfl) (op_calls 84 #[(.tmp 5)] #[42] (fun σ => #[.agg (mRow a u1).toArray]) rfl rfl (fun _ _=>rfl) fun σ w' hx hg=>⟨by have h5 : σ.tmps.getD 5 undef = .agg (mRow a u1).toArray:=hg.1;simp only [List.map_toArray,List.map_cons,List.map_nil,Act.eval,h5],numsR a u1 _⟩) ?_
  refine LinL.step (s:=(.val (.agg (mRow b u2).toArray))) [(3,none)] rfl (by kernel_rfl) (op_runs rfl fun σ w' hx hg=>⟨_,runs_loadN (ρ := σ.eval) (w:=w') (us:=mRow b u2) Tryz.stMsg (.tmp 3) rfl hg.1 (f2.ext hx) rfl mself_at,rfl⟩) ?_
  refine LinL.step (s:=(.val (.agg (i64s b.nums).toArray))) [(7,some 0)] rfl (by kernel_rfl) (op_calls 84 #[(.tmp 7)] #[42] (fun σ => #[.agg (mRow b u2).toArray]) rfl rfl (fun _ _=>rfl) fun σ w' hx hg=>⟨by have h7 : σ.tmps.getD 7 undef = .agg (mRow b u2).toArray:=hg.1;simp only [List.map_toArray,List.map_cons,List.map_nil,Act.eval,h7],numsR b u2 _⟩) ?_
  refine LinL.step (s:=(.val (.bool false))) [(6,some 2),(8,some 0)] rfl (by kernel_rfl) (op_runs rfl fun σ w' hx hg=>⟨_,runs_sixeq (ρ := σ.eval) (w:=w') (.tmp 6) (.tmp 8) a.nums b.nums rfl hg.1 hg.2.1 rfl rfl t1,rfl⟩) ?_
  refine LinL.step (s:=(.val (.bool false))) [(9,some 0)] rfl (by kernel_rfl) (op_copy 9 0 (.val (.bool false)) rfl (.inl rfl) rfl) ?_
  refine LinL.step (s := .val undef) [(2,none),(10,some 0)] rfl (by kernel_rfl) (op_no (reads:=[(2,none)]) 5 10 0 true rfl rfl rfl) ?_
  refine LinL.step (s := .val undef) [(11,some 0),(10,some 1)] rfl (by kernel_rfl) (op_no (reads:=[(11,some 0)]) 5 10 1 true rfl rfl rfl) ?_
  refine LinL.step (s := .val undef) [(3,none),(10,some 2)] rfl (by kernel_rfl) (op_no (reads:=[(3,none)]) 5 10 2 true rfl rfl rfl) ?_
  refine LinL.step (s := .val undef) [(13,some 0),(10,some 3)] rfl (by kernel_rfl) (op_no (reads:=[(13,some 0)]) 5 10 3 true rfl rfl rfl) ?_
  refine LinL.step (s := .val undef) [(12,some 2),(14,some 0),(10,some 4)] rfl (by kernel_rfl) (op_no (reads:=[(12,some 2),(14,some 0)]) 5 10 4 true rfl rfl rfl) ?_
  refine LinL.step (s:=(.val (.bool false))) [(10,some 5),(15,some 0)] rfl (by kernel_rfl) (op_runs rfl fun σ w' hx hg=>⟨_,runs_pick_f (ρ := σ.eval) (w:=w') (.tmp 10) (.tmp 15) (.const (.bool false)) rfl hg.1 rfl,rfl⟩) ?_
  refine z1iz ?_
  intro wN hxN
  refine z15z ?_
  replace hX:=hX.trans hxN
  go_wp2
  go_ret
  exact z1dz
 have t1:=decide_eq_true e1
 by_cases e2:a.tx = b.tx
 rotate_left
 ·have t2:=decide_eq_false e2
  have hdec:=hide_ (show decide (a = b) = false from decide_eq_false fun h=>e2 (hiff.1 h).2.1)
  clear hiff e1 e2
  go_enter Tryz.func69,Tryz.ntmps69
  go_wp2_with ((first | (refine z4yz ?_;intro g1 w1 hg1 hX f1) | (refine z4zz ?_;intro g2 w2 hg2 hx2 f2;replace f1:=f1.ext hx2;replace hX:=hX.trans hx2;clear hx2) | fail) <;> (try refine z0z ?_))
  refine zmz ?_;intro wd hxd;replace f1:=f1.ext hxd;replace f2:=f2.ext hxd;replace hX:=hX.trans hxd
  refine z7z ?_
  refine LinL.step (s:=(.val (.bool false))) [(12,some 2),(14,some 0),(10,some 4)] rfl (by kernel_rfl) (op_yes (reads:=[(12,some 2),(14,some 0)]) 5 10 4 true rfl rfl rfl (op_runs rfl fun σ w' hx hg=>⟨_,runs_txeq (ρ := σ.eval) (w:=w') (.tmp 12) (.tmp 14) a.tx b.tx rfl hg.1 hg.2.1,by rw [t2];rfl⟩)) ?_
  refine LinL.step (s:=(.val (.bool false))) [(10,some 5),(15,some 0)] rfl (by kernel_rfl) (op_runs rfl fun σ w' hx hg=>⟨_,runs_pick_t (ρ := σ.eval) (w:=w') (.tmp 10) (.tmp 15) (.const (.bool false)) rfl hg.1 hg.2.1,rfl⟩) ?_
  refine z1iz ?_
  intro wN hxN
  refine z15z ?_
  replace hX:=hX.trans hxN
  go_wp2
  go_ret
  exact z1dz
 ·have t2:=decide_eq_true e2
  have hdec:=hide_ (show decide (a = b) = a.bk.same b.bk from by
   have:a = b ↔ a.bk.same b.bk = true:=hiff.trans ⟨fun h=>BlkD.same_iff.2 h.2.2,fun h=>⟨e1,e2,BlkD.same_iff.1 h⟩⟩
   cases hq:a.bk.same b.bk with
   | true=>exact decide_eq_true (this.2 hq)
   | false=>exact decide_eq_false fun h=>by rw [this.1 h] at hq;cases hq)
  clear hiff e1 e2
  cases hb:a.bk.same b.bk
  ·rw [hb] at hdec
   go_enter Tryz.func69,Tryz.ntmps69
   go_wp2_with ((first | (refine z4yz ?_;intro g1 w1 hg1 hX f1) | (refine z4zz ?_;intro g2 w2 hg2 hx2 f2;replace f1:=f1.ext hx2;replace hX:=hX.trans hx2;clear hx2) | fail) <;> (try refine z0z ?_))
   refine zmz ?_;intro wd hxd;replace f1:=f1.ext hxd;replace f2:=f2.ext hxd;replace hX:=hX.trans hxd
   refine zvz ?_
   refine LinL.step (s:=(.val (.bool false))) [(19,some 2),(21,some 0),(17,some 4)] rfl (by kernel_rfl) (op_yes (reads:=[(19,some 2),(21,some 0)]) 12 17 4 true rfl rfl rfl (op_calls 85 #[(.tmp 19),(.tmp 21)] #[40,40] (fun σ => #[.agg (bRw a.bk u1).toArray, .agg (bRw b.bk u2).toArray]) rfl rfl (fun _ _=>rfl) fun σ w' hx hg=>⟨by have h19 : σ.tmps.getD 19 undef = .agg (bRw a.bk u1).toArray:=hg.1;have h21 : σ.tmps.getD 21 undef = .agg (bRw b.bk u2).toArray:=hg.2.1;simp only [List.map_toArray,List.map_cons,List.map_nil,Act.eval,h19,h21],bsameR (h1.out.ext TxR.stays (hX.trans hx)) (h2.out.ext TxR.stays (hX.trans hx)) hb⟩)) ?_
   refine LinL.step (s:=(.val (.bool false))) [(17,some 5),(22,some 0)] rfl (by kernel_rfl) (op_runs rfl fun σ w' hx hg=>⟨_,runs_pick_t (ρ := σ.eval) (w:=w') (.tmp 17) (.tmp 22) (.const (.bool false)) rfl hg.1 hg.2.1,rfl⟩) ?_
   refine LinL.step (s:=(.val (.bool false))) [(23,some 0)] rfl (by kernel_rfl) (op_copy 23 0 (.val (.bool false)) rfl (.inr rfl) rfl) ?_
   intro wN hxN
   refine z15z ?_
   replace hX:=hX.trans hxN
   go_wp2
   go_ret
   exact z1dz
  ·rw [hb] at hdec
   go_enter Tryz.func69,Tryz.ntmps69
   go_wp2_with ((first | (refine z4yz ?_;intro g1 w1 hg1 hX f1) | (refine z4zz ?_;intro g2 w2 hg2 hx2 f2;replace f1:=f1.ext hx2;replace hX:=hX.trans hx2;clear hx2) | fail) <;> (try refine z0z ?_))
   refine zmz ?_;intro wd hxd;replace f1:=f1.ext hxd;replace f2:=f2.ext hxd;replace hX:=hX.trans hxd
   refine zvz ?_
   refine LinL.step (s:=(.val (.bool true))) [(19,some 2),(21,some 0),(17,some 4)] rfl (by kernel_rfl) (op_yes (reads:=[(19,some 2),(21,some 0)]) 12 17 4 true rfl rfl rfl (op_calls 85 #[(.tmp 19),(.tmp 21)] #[40,40] (fun σ => #[.agg (bRw a.bk u1).toArray, .agg (bRw b.bk u2).toArray]) rfl rfl (fun _ _=>rfl) fun σ w' hx hg=>⟨by have h19 : σ.tmps.getD 19 undef = .agg (bRw a.bk u1).toArray:=hg.1;have h21 : σ.tmps.getD 21 undef = .agg (bRw b.bk u2).toArray:=hg.2.1;simp only [List.map_toArray,List.map_cons,List.map_nil,Act.eval,h19,h21],bsameR (h1.out.ext TxR.stays (hX.trans hx)) (h2.out.ext TxR.stays (hX.trans hx)) hb⟩)) ?_
   refine LinL.step (s:=(.val (.bool true))) [(17,some 5),(22,some 0)] rfl (by kernel_rfl) (op_runs rfl fun σ w' hx hg=>⟨_,runs_pick_t (ρ := σ.eval) (w:=w') (.tmp 17) (.tmp 22) (.const (.bool false)) rfl hg.1 hg.2.1,rfl⟩) ?_
   refine LinL.step (s:=(.val (.bool true))) [(23,some 0)] rfl (by kernel_rfl) (op_copy 23 0 (.val (.bool true)) rfl (.inr rfl) rfl) ?_
   intro wN hxN
   refine z15z ?_
   replace hX:=hX.trans hxN
   go_wp2
   go_ret
   exact z1dz
theorem not_mem_take_succ {l:List Int} {k:Nat} {n:Int} (h:n ∉ l.take k) (hk:k < l.length) (hn:l[k]≠n):n ∉ l.take (k + 1):=by
 rw [List.take_add_one,List.getElem?_eq_getElem hk]
 simp only [Option.toList_some,List.mem_append,List.mem_singleton,not_or]
 exact ⟨h,fun e=>hn e.symm⟩
set_option maxHeartbeats 1600000 in
theorem Index_any {w:World} {v:Value} {l:List Int} {n:Int} (h0:Ints w v l) :
  Calls Tryz.prog 99 #[v, .int .i64 n] w fun e w' => ∃ r:Int,e = .returned (.int .i64 r)∧decide (0≤r) = decide (n∈l)∧Ext w w':=by
 refine z2rz ?_
 have hmax:l.length≤9223372036854775807:=by have:=h0.len_le;unfold maxLen at this;omega
 replace h0:=hide_ h0
 go_enter Tryz.func99,Tryz.ntmps99
 go_wp2_with ((first | ((with_reducible refine at_bi ?_);refine i_len _ rfl rfl (v:=v) rfl h0.out ?_) | fail) <;> (try refine z0z ?_))
 go_loopw [8] (fun i wr => ∃ k:Nat,i = .int .i64 k∧k≤l.length∧Hid (n ∉ l.take k)∧Ext w wr) (fun i _=>l.length - (RowKit.intOf i).toNat)
 case atStart=>exact ⟨0,rfl,Nat.zero_le _,hide_ (by simp),Ext.refl _⟩
 case round =>
  obtain ⟨k,rfl,hk,hnt,hX⟩:=hrel
  by_cases hge:l.length≤k
  ·obtain rfl:k = l.length:=by omega
   have t2:decide (l.length < l.length) = false:=by simp
   rw [List.take_length] at hnt
   clear hge
   go_wp2
   go_ret
   exact Keep.intro ⟨-1,rfl,by rw [decide_eq_false hnt.out];rfl,hX⟩
  have hlt:k < l.length:=by omega
  have t2:decide (k < l.length) = true:=by simpa using hlt
  obtain ⟨x,hx0⟩:∃ x,l[k] = x:=⟨_,rfl⟩
  have hx:=hide_ hx0
  have hlt':=hide_ hlt
  clear hge
  cases hc:(n == x)
  ·have hnt2:=hide_ (not_mem_take_succ hnt.out hlt (by rw [hx0];intro e;rw [e] at hc;simp at hc))
   clear hx0
   go_wp2_with ((first | ((with_reducible refine at_idx ?_);refine i_idx _ _ k rfl rfl rfl (h0.out.ext hX) rfl hlt'.out ?_;intro ad had;rw [hx.out] at had) | fail) <;> (try refine z0z ?_))
   go_roundw
   case rel=>exact ⟨k + 1,by go_num,hlt'.out,hnt2,hX⟩
   case measure=>have:=hlt'.out;simp [RowKit.intOf];omega
  ·have hin:=hide_ (show n∈l from by
    have:n = x:=by simpa using hc
    rw [this, ← hx0];exact List.getElem_mem hlt)
   clear hx0
   go_wp2_with ((first | ((with_reducible refine at_idx ?_);refine i_idx _ _ k rfl rfl rfl (h0.out.ext hX) rfl hlt'.out ?_;intro ad had;rw [hx.out] at had) | fail) <;> (try refine z0z ?_))
   go_ret
   exact Keep.intro ⟨(k:Nat),rfl,by rw [decide_eq_true hin.out];simp,hX⟩
set_option maxHeartbeats 1600000 in
theorem Contains_any {w:World} {v:Value} {l:List Int} {n:Int} (h0:Ints w v l) :
  Calls Tryz.prog 82 #[v, .int .i64 n] w fun e w'=>e = .returned (.bool (decide (n∈l)))∧Ext w w':=by
 refine z2rz ?_
 replace h0:=hide_ h0
 have hX:=Ext.refl w
 obtain ⟨q,hq⟩:∃ q,decide (n∈l) = q:=⟨_,rfl⟩
 have hq':=hide_ hq
 rw [hq]
 clear hq
 go_enter Tryz.func82,Tryz.ntmps82
 go_wp2_with (first | (go_at_call 99;refine (Index_any (n:=n) (h0.out.ext hX)).mono ?_;rintro e w4 ⟨r,rfl,hr,hx⟩;rw [hq'.out] at hr;replace hX:=hX.trans hx;clear hx) | fail)
 go_ret
 exact z4pz
theorem Tryz.elActN:ElN Tryz.prog 45 53 14 128 (.agg (.int .i64 0 :: mZero).toArray):=ElN.of Tryz.underlying45 (by kernel_rfl) rfl (by decide) (by decide)
theorem act_one (a:AcV):∀ u∈acRow a,u.oneCell' = true:=by
 intro u hu
 rcases List.mem_cons.1 hu with rfl | hu
 ·rfl
 ·exact m_one (d:=a.m.msg) rfl u hu
theorem run_actbuild (n:Int) (d:MsgD) (u:Value) (w:World):(Instr.build 53 #[(0, .int .i64 n),(1, .agg (mRow d u).toArray)]).run Tryz.prog w = .ok (.agg (.int .i64 n :: mRow d u).toArray) w:=by
 unfold Instr.build
 simp [run_underlying Tryz.underlying53,Tryz.sizeOf3,Tryz.sizeOf42,Instr.fill,Value.cells,mRow]
theorem w_actbuild {ops:Array Oper} {rest:List Oper} {o:Oper} {a:Act} {Q:Exit→Act→World→Prop} {w:World} (x:Operand) {n:Int} {d:MsgD} {u:Value} (hgd:o.guard = none) (ho:o.op = .build 53 #[(0, .const (.int .i64 n)),(1,x)]) (hx:a.eval x = .agg (mRow d u).toArray)
  (k:wpList Tryz.prog ops Q rest (a.put o.dst (.agg (.int .i64 n :: mRow d u).toArray)) w):wpList Tryz.prog ops Q (o :: rest) a w:=by
 have hr:=run_actbuild n d u w
 refine wpList_runs hgd ?_ k
 unfold Runs execOp
 have hc:a.eval (.const (.int .i64 n)) = .int .i64 n:=rfl
 simp [ho,hx,hc,hr]
def fil (c:CoD) (m:MsV):MsV:={ m with fm:=c.me,ix:=c.idx,vw:=if m.kd = 6 then m.vw else c.view }
theorem filled_turn {S:Nat→Nat} {w:World} {tb p q gp gs:Nat} {kv ov sv dv:Value} {kn:List Int} {c:CoD} {m:MsV} (h:TrnW S w tb p kv ov sv dv q gp gs kn c) :
  Calls Tryz.prog 67 #[.pointer (some ⟨tb,0,none⟩), .agg (mRow m.msg (.slice none 0 0)).toArray] w fun e w'=>e = .returned (.agg (mRow (fil c m).msg (.slice none 0 0)).toArray)∧Ext w w':=by
 refine z2rz ?_
 have hT:=hide_ h
 have hX:=Ext.refl w
 clear h
 by_cases hk:m.kd = 6
 ·
  have t6:(m.kd != 6) = false:=by simp [hk]
  have hfil:=hide_ (show fil c m = ({ m with fm:=c.me,ix:=c.idx }:MsV) from by unfold fil;rw [if_pos hk])
  clear hk
  go_enter Tryz.func67,Tryz.ntmps67
  go_wp2_with ((first | (refine z4kz ?_;intro g3 w1 hg3 hx f3;replace hX:=hX.trans hx;clear hx) | ((with_reducible refine at_alloc ?_);refine w_allocN Tryz.stMsg rfl rfl ?_;intro g4 w2 hg40 hx f4;have hg4:=hide_ (Nat.le_trans hX.size hg40);have hne:=hide_ (show g3≠g4 from by have:=f3.lt;omega);clear hg40;replace f3:=f3.ext hx;replace hX:=hX.trans hx;clear hx) | fail) <;> (try refine z0z ?_))
  refine zmz ?_;intro wd hxd;have HT:=hT.out.ext (hX.trans hxd);have FT:=HT.turn;have F0:=HT.cor.obj;have F3:=f3.ext hxd
  refine z6vz ?_
  intro wA hxA
  refine z15z ?_
  have F3a:=F3.ext hxA
  refine zgz ?_
  refine w_fstore _ _ (u := .int .i64 (c.me:Nat)) rfl rfl rfl rfl rfl F3a (by simp [mRow]) rfl rfl (by kernel_rfl) ?_;intro w8 hm8 f8
  show Ph Tryz.prog _ _ 14 _ _
  refine Ph.gate 14 1 (by kernel_rfl) ?_
  refine LinL.st [(3,none)] rfl (opmf g3 2 2) ?_
  intro wN hxN
  refine z2qz ?_
  refine z0z ?_
  have f8b:=f8.ext hxN
  refine zgz ?_
  refine w_fstore _ _ (u := .int .i64 (c.dec.length:Nat)) rfl rfl rfl rfl rfl f8b (by simp [mRow]) rfl rfl (by kernel_rfl) ?_;intro w9 hm9 f9
  refine z3rz ?_
  intro wM hxM
  refine zuz ?_
  have hx9:Ext w wM:=((hm9.after ((hm8.after (hX.trans (hxd.trans hxA)) fun j e=>e ▸ hg3).trans hxN) fun j e=>e ▸ hg3)).trans hxM
  have f3':Fs wM g3 [.int .i64 m.kd, .int .i64 (c.me:Nat), .int .i64 (c.dec.length:Nat), .int .i64 m.vw, .int .i64 m.vl, .int .i64 m.pr, .int .i64 0, .int .i64 0, .int .i64 0, .int .i64 0, .int .i64 0, .int .i64 0, .slice none 0 0]:=f9.ext hxM
  have f4':Fs wM g4 mZero:=((((f4.ext (hxd.trans hxA)).mod hm8 fun e=>hne.out e.symm).ext hxN).mod hm9 fun e=>hne.out e.symm).ext hxM
  clear f3 f4 hX hm9 hm8 hxd hxA hxN hxM f8 f8b f9 F3 F3a HT FT F0
  have hX:=hx9
  clear hx9
  go_wp2_with ((first | ((with_reducible refine at_load ?_);refine w_loadN Tryz.stMsg _ (mRow ({ m with fm:=c.me,ix:=c.idx }:MsV).msg (.slice none 0 0)) rfl rfl rfl f3' rfl mself_at ?_) | refine z5qz ?_ | ((with_reducible refine at_store ?_);refine w_astoreN Tryz.stMsg (us:=mRow ({ m with fm:=c.me,ix:=c.idx }:MsV).msg (.slice none 0 0)) _ _ rfl rfl rfl rfl rfl f4' rfl rfl (m_one rfl) ?_;intro w9 hm9 f9;replace f4':=f9;replace hX:=hm9.after hX (fun j e=>e ▸ hg4.out);clear hm9 f9) | fail) <;> (try refine z0z ?_))
  exact bodyPost_ret (ag_one Tryz.agMsg rfl rfl f4' rfl) rfl (Keep.intro ⟨by rw [hfil.out],hX⟩)
 ·
  have t6:(m.kd != 6) = true:=by simp [hk]
  have hfil:=hide_ (show fil c m = ({ m with fm:=c.me,ix:=c.idx,vw:=c.view }:MsV) from by unfold fil;rw [if_neg hk])
  clear hk
  go_enter Tryz.func67,Tryz.ntmps67
  go_wp2_with ((first | (refine z4kz ?_;intro g3 w1 hg3 hx f3;replace hX:=hX.trans hx;clear hx) | ((with_reducible refine at_alloc ?_);refine w_allocN Tryz.stMsg rfl rfl ?_;intro g4 w2 hg40 hx f4;have hg4:=hide_ (Nat.le_trans hX.size hg40);have hne:=hide_ (show g3≠g4 from by have:=f3.lt;omega);clear hg40;replace f3:=f3.ext hx;replace hX:=hX.trans hx;clear hx) | fail) <;> (try refine z0z ?_))
  refine zmz ?_;intro wd hxd;have HT:=hT.out.ext (hX.trans hxd);have FT:=HT.turn;have F0:=HT.cor.obj;have F3:=f3.ext hxd
  refine z6vz ?_
  intro wA hxA
  refine z15z ?_
  have F3a:=F3.ext hxA
  refine zgz ?_
  refine w_fstore _ _ (u := .int .i64 (c.me:Nat)) rfl rfl rfl rfl rfl F3a (by simp [mRow]) rfl rfl (by kernel_rfl) ?_;intro w8 hm8 f8
  show Ph Tryz.prog _ _ 14 _ _
  refine Ph.gate 14 1 (by kernel_rfl) ?_
  refine LinL.st [(3,none)] rfl (opmf g3 2 2) ?_
  intro wN hxN
  refine z2qz ?_
  refine z0z ?_
  have f8b:=f8.ext hxN
  refine zgz ?_
  refine w_fstore _ _ (u := .int .i64 (c.dec.length:Nat)) rfl rfl rfl rfl rfl f8b (by simp [mRow]) rfl rfl (by kernel_rfl) ?_;intro w9 hm9 f9
  refine z3rz ?_
  intro wM hxM
  refine zuz ?_
  have hx9:Ext w wM:=((hm9.after ((hm8.after (hX.trans (hxd.trans hxA)) fun j e=>e ▸ hg3).trans hxN) fun j e=>e ▸ hg3)).trans hxM
  have f3':Fs wM g3 [.int .i64 m.kd, .int .i64 (c.me:Nat), .int .i64 (c.dec.length:Nat), .int .i64 m.vw, .int .i64 m.vl, .int .i64 m.pr, .int .i64 0, .int .i64 0, .int .i64 0, .int .i64 0, .int .i64 0, .int .i64 0, .slice none 0 0]:=f9.ext hxM
  have f4':Fs wM g4 mZero:=((((f4.ext (hxd.trans hxA)).mod hm8 fun e=>hne.out e.symm).ext hxN).mod hm9 fun e=>hne.out e.symm).ext hxM
  clear f3 f4 hX hm9 hm8 hxd hxA hxN hxM f8 f8b f9 F3 F3a HT FT F0
  have hX:=hx9
  clear hx9
  go_wp2_with ((first | ((with_reducible refine at_load ?_);refine w_loadN Tryz.stMsg _ (mRow (⟨m.kd,c.me,c.idx,c.view,m.vl,m.pr⟩:MsV).msg (.slice none 0 0)) rfl rfl rfl f3' rfl mself_at ?_) | refine z5qz ?_ | ((with_reducible refine at_store ?_);refine w_fstore _ _ (u := .int .i64 c.view) rfl rfl rfl rfl rfl f3' (by simp [mOff]) rfl rfl (by kernel_rfl) ?_;intro w8 hm8 f8;replace f3':Fs w8 g3 [.int .i64 m.kd, .int .i64 (c.me:Nat), .int .i64 (c.dec.length:Nat), .int .i64 c.view, .int .i64 m.vl, .int .i64 m.pr, .int .i64 0, .int .i64 0, .int .i64 0, .int .i64 0, .int .i64 0, .int .i64 0, .slice none 0 0]:=f8;replace f4':=f4'.mod hm8 (fun e=>hne.out e.symm);replace hX:=hm8.after hX (fun j e=>e ▸ hg3);clear hm8 f8) | ((with_reducible refine at_store ?_);refine w_astoreN Tryz.stMsg (us:=mRow (⟨m.kd,c.me,c.idx,c.view,m.vl,m.pr⟩:MsV).msg (.slice none 0 0)) _ _ rfl rfl rfl rfl rfl f4' rfl rfl (m_one rfl) ?_;intro w9 hm9 f9;replace f4':=f9;replace hX:=hm9.after hX (fun j e=>e ▸ hg4.out);clear hm9 f9) | fail) <;> (try refine z0z ?_))
  exact bodyPost_ret (ag_one Tryz.agMsg rfl rfl f4' rfl) rfl (Keep.intro ⟨by rw [hfil.out],hX⟩)
def JS (S:Nat→Nat) (w:World) (tb p:Nat) (kv:Value) (rows:List (List Value)) (a:AcV) (m:Nat) (x:Value) (w':World):Prop :=
 match m with
 | 0=>Ext w w'
 | 1=>Ext w w'∧x = .agg (mRow a.m.msg (.slice none 0 0)).toArray
 | 2=>Ext w w'∧x = .agg (acRow a).toArray
 | 3=>Ext w w'∧RowN (fun k=>w.heap.size≤k) w' 53 14 x [acRow a]
 | 4=>Mod (fun k=>S k = 8) w w'∧RowN (grow (fun k=>S k = 8) w w') w' 53 14 x (rows ++ [acRow a])
 | _ => ∃ w1 v,Mod (fun k=>S k = 8) w w1∧RowN (grow (fun k=>S k = 8) w w1) w1 53 14 v (rows ++ [acRow a])∧Mod (fun k=>k = tb) w1 w'∧Fs w' tb [.pointer (some ⟨p,0,none⟩),kv,v]
theorem JS.ext {S:Nat→Nat} {w:World} {tb p:Nat} {kv:Value} {rows:List (List Value)} {a:AcV} {m:Nat} {x:Value} {w':World} (h:JS S w tb p kv rows a m x w') {k:Nat} (hm:m≤k) (hk:k≤3:=by omega):Ext w w':=by
 rcases (show m = 0∨m = 1∨m = 2∨m = 3 by omega) with rfl|rfl|rfl|rfl
 ·exact h
 ·exact h.1
 ·exact h.1
 ·exact h.1
theorem send_turn {S:Nat→Nat} {w:World} {tb p q gp gs:Nat} {kv ov sv dv:Value} {kn:List Int} {c:CoD} {m0:MsV} (h:TrnW S w tb p kv ov sv dv q gp gs kn c) (hlen0:(c.out.length + 1) * 128≤140737488355328) :
  Calls Tryz.prog 51 #[.pointer (some ⟨tb,0,none⟩), .agg (mRow m0.msg (.slice none 0 0)).toArray] w fun e w'=>e = .returned (.tuple #[])∧∃ S' ov',TrnW S' w' tb p kv ov' sv dv q gp gs kn (c.send (fil c m0))∧Stp 1 8 S S' w w':=by
 refine z2rz ?_
 have hT:=hide_ h
 have hlen:=hide_ hlen0
 clear h hlen0
 go_enter Tryz.func51,Tryz.ntmps51
 go_wp2_with ((first | ((with_reducible refine at_box ?_);refine w_box _ (mRow m0.msg (.slice none 0 0)) rfl rfl rfl rfl ?_;intro g3 w1 hg3 hX f3) | fail) <;> (try refine z0z ?_))
 have hT1:=hT.out.ext hX
 refine wp_region_chain [0,1,2,3,4,5,6,11,12] [7,8,9,10,13] [13] (fun i=>([4,5,6,7,8,9,10,11,12,13,14,15,16,4]:List Nat).getD i 0) (fun i x=>x = ([(.pointer (some ⟨tb,0,none⟩)),(.pointer (some ⟨tb,0,none⟩)),(.pointer (some ⟨tb,0,none⟩)),(.pointer (some ⟨tb,2,none⟩)),(ov),(.pointer (some ⟨tb,0,none⟩)),(.agg (mRow m0.msg (.slice none 0 0)).toArray),undef,undef,undef,undef,(.pointer (some ⟨tb,0,none⟩)),(.pointer (some ⟨tb,2,none⟩)),undef]:List Value).getD i undef) (JS S w1 tb p kv (c.out.map acRow) ⟨-1,fil c m0⟩) (by kernel_rfl) (by kernel_rfl) (by kernel_rfl) (by decide) (by kernel_rfl) (by decide) (by decide) (by decide) (by intro i hi;show _ < 17;revert i;decide) (by kernel_rfl) (fun w1 h=>h) ?_ ?_ ?_
 ·intro i hi m x b w' hJ hlat hpre hout hdep
  rcases (show i = 0∨i = 1∨i = 2∨i = 3∨i = 4∨i = 5∨i = 6∨i = 11∨i = 12 by simp at hi;omega) with rfl|rfl|rfl|rfl|rfl|rfl|rfl|rfl|rfl
  ·have e0:b.tmps.getD 0 undef = .pointer (some ⟨tb,0,none⟩):=hout 0 (by decide)
   exact z6oz
  ·have e0:b.tmps.getD 0 undef = .pointer (some ⟨tb,0,none⟩):=hout 0 (by decide)
   exact z6oz
  ·have e5:b.tmps.getD 5 undef = .pointer (some ⟨tb,0,none⟩):=hdep 1 (by decide) (by kernel_rfl)
   refine zgz ?_
   refine w_nilC _ rfl rfl e5 ?_
   exact z2gz
  ·have e6:b.tmps.getD 6 undef = .pointer (some ⟨tb,0,none⟩):=hdep 2 (by decide) (by kernel_rfl)
   refine zgz ?_
   refine w_fieldB (i:=2) (off:=2) (c:=2) (by kernel_rfl) rfl (.tmp 6) tb rfl rfl e6 ?_
   exact z2gz
  ·have e7:b.tmps.getD 7 undef = .pointer (some ⟨tb,2,none⟩):=hdep 3 (by decide) (by kernel_rfl)
   have hx:Ext w1 w':=JS.ext hJ (hlat 3 (by decide) (by kernel_rfl))
   refine zgz ?_
   refine w_fload (.tmp 7) rfl rfl e7 (hT1.turn.ext hx) rfl (agg_of (by kernel_rfl)) ?_
   exact z2gz
  ·have e0:b.tmps.getD 0 undef = .pointer (some ⟨tb,0,none⟩):=hout 0 (by decide)
   exact z6oz
  ·have e3:b.tmps.getD 3 undef = .pointer (some ⟨g3,0,none⟩):=hout 3 (by decide)
   have hx:Ext w1 w':=JS.ext hJ (hlat 0 (by decide) (by kernel_rfl))
   refine zgz ?_
   refine w_loadN Tryz.stMsg (.tmp 3) (mRow m0.msg (.slice none 0 0)) rfl rfl e3 (f3.ext hx) rfl mself_at ?_
   exact z2gz
  ·have e4:b.tmps.getD 4 undef = .pointer (some ⟨tb,0,none⟩):=hdep 0 (by decide) (by kernel_rfl)
   refine zgz ?_
   refine w_nilC _ rfl rfl e4 ?_
   exact z2gz
  ·have e15:b.tmps.getD 15 undef = .pointer (some ⟨tb,0,none⟩):=hdep 11 (by decide) (by kernel_rfl)
   refine zgz ?_
   refine w_fieldB (i:=2) (off:=2) (c:=2) (by kernel_rfl) rfl (.tmp 15) tb rfl rfl e15 ?_
   exact z2gz
 ·intro m hm x b w' hJ hpr hout hdep
  rcases (show m = 0∨m = 1∨m = 2∨m = 3∨m = 4 by simp at hm;omega) with rfl|rfl|rfl|rfl|rfl
  ·have e9:b.tmps.getD 9 undef = .pointer (some ⟨tb,0,none⟩):=hdep 5 (by decide) (by kernel_rfl)
   have e10:b.tmps.getD 10 undef = .agg (mRow m0.msg (.slice none 0 0)).toArray:=hdep 6 (by decide) (by kernel_rfl)
   show wpOp _ _ _ 7 _ _ _
   refine wpOp_call 67 #[.pointer (some ⟨tb,0,none⟩), .agg (mRow m0.msg (.slice none 0 0)).toArray] 11 rfl rfl rfl rfl (fun _ _=>rfl) (by simp only [List.map_toArray,List.map_cons,List.map_nil,Act.eval,e9,e10]) ?_
   have hx:Ext w1 w':=hJ
   refine (filled_turn (hT1.ext hx)).mono ?_
   rintro e w2 ⟨rfl,hx2⟩
   exact ⟨_,rfl,_,rfl,hx.trans hx2,rfl⟩
  ·have e11:b.tmps.getD 11 undef = x:=hpr (by omega) rfl
   show wpOp _ _ _ 8 _ _ _
   obtain ⟨hx,rfl⟩:=hJ
   refine zgz ?_
   refine w_actbuild (.tmp 11) (n := -1) (d:=(fil c m0).msg) (u := .slice none 0 0) rfl rfl e11 ?_
   exact ⟨_,rfl,hx,rfl⟩
  ·have e12:b.tmps.getD 12 undef = x:=hpr (by omega) rfl
   show wpOp _ _ _ 9 _ _ _
   obtain ⟨hx,rfl⟩:=hJ
   refine zgz ?_
   refine w_nnew Tryz.elActN [acRow ⟨-1,fil c m0⟩] rfl rfl (by show [(0,b.tmps.getD 12 undef)] = _;rw [e12];rfl) (by simp [acRow_len]) rfl (by omega) ?_
   intro v2 w2 B hB1 hB2 hx2 hn
   exact ⟨_,rfl,hx.trans hx2,hn.mono fun k hk=>Nat.le_trans hx.size (Nat.le_trans hB1 hk.1)⟩
  ·have e8:b.tmps.getD 8 undef = ov:=hdep 4 (by decide) (by kernel_rfl)
   have e13:b.tmps.getD 13 undef = x:=hpr (by omega) rfl
   show wpOp _ _ _ 10 _ _ _
   obtain ⟨hx,hrx⟩:=hJ
   refine zgz ?_
   refine w_napp Tryz.elActN (.tmp 8) (.tmp 13) rfl rfl e8 e13 (hT1.out.ext hx) hrx.slS (by simp) (fun y hy=>by rw [List.mem_singleton] at hy;subst hy;exact act_one _) (by rw [List.length_map];exact hlen.out) ?_
   intro v2 w2 hm2 hr2
   exact ⟨_,rfl,(hx.mod _).trans hm2 (fun _ _ h=>h),hr2.mono fun k hk=>hk.elim .inl fun h=>.inr ⟨Nat.le_trans hx.size h.1,h.2⟩⟩
  ·have e16:b.tmps.getD 16 undef = .pointer (some ⟨tb,2,none⟩):=hdep 12 (by decide) (by kernel_rfl)
   have e14:b.tmps.getD 14 undef = x:=hpr (by omega) rfl
   show wpOp _ _ _ 13 _ _ _
   obtain ⟨hm1,hr1⟩:=hJ
   obtain ⟨A,cc,hxv,_⟩:=hr1.slS
   refine zgz ?_
   refine w_fstore (u:=x) (.tmp 16) (.tmp 14) rfl rfl rfl e16 e14 (hT1.turn.mod hm1 fun e=>by have e2:S tb = 8:=e;rw [hT1.ltb] at e2;omega) (by simp) (by rw [hxv];rfl) (by rw [hxv];rfl) (by kernel_rfl) ?_
   intro w2 hm2 f2
   exact ⟨undef,rfl,w',x,hm1,hr1,hm2,f2⟩
 intro w7 x0 x hJ hv _
 simp only [List.cons_append,List.nil_append,List.foldl_cons,List.foldl_nil]
 generalize x 0 = x100
 generalize x 1 = x101
 generalize x 2 = x102
 generalize x 3 = x103
 generalize x 4 = x104
 generalize x 5 = x105
 generalize x 6 = x106
 generalize x 7 = x107
 generalize x 8 = x108
 generalize x 9 = x109
 generalize x 10 = x110
 generalize x 11 = x111
 generalize x 12 = x112
 generalize x 13 = x113
 refine z2az ?_
 clear hv
 obtain ⟨w3,v,j1,j2,j3,j4⟩:=hJ
 obtain ⟨S',hT',hS'⟩:=hT1.send j1 j2 j3 j4
 go_wp2
 go_end0
 exact Keep.intro ⟨rfl,S',v,hT',(Stp.ofExt hX hT.out.bnd).trans hS'⟩
end Go.Proofs.YtdoeoncmhaihbaaGreat
