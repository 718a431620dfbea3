/- maps.Values of a map of numbers by numbers, sorted. · The first operations of a region that draws its order, all of which only add memory: some tell values, others make blocks of their own, and what two of them made lies apart. · What others said was decided; an index's beginning; a decision. -/
import Derived.Test.YtdoeoncmhaihbaaGreatPk09
import Derived.RangeFuncStops
import Derived.Test.YtdoeoncmhaihbaaGreatPk12
import Derived.Test.YtdoeoncmhaihbaaGreatChkT4
namespace Go.Proofs.YtdoeoncmhaihbaaGreat
set_option maxRecDepth 100000
open Go.RowKit Go.Maps Go.Sort Go.Lib
def ValsAll (D:DataW Value) (f:Nat→Option Int) (xs:List Int):Prop := ∃ ps:List (Int × Int),(∀ x,x∈ps.map (·.1) ↔ has D (.int .i64 x) = true)∧(∀ p∈ps,In64 p.1∧fat f p.1 = some p.2)∧xs = ps.map (·.2)
def ValsPart (_:List Int):Prop:=True
set_option maxHeartbeats 1000000 in
theorem valuesI_in {n:Nat} (hn:1≤n) (l Bm b nn:Nat) (D0:DataW Value) {f:Nat→Option Int} (hf:InM D0 f) (J Jx:List Int→World→Prop)
  (hY:∀ pre x W,J pre W→pre.length < Maps.size D0→YieldAt Fence.wide (n - 1) Tryz.prog l #[.int .i64 x] W fun e W' =>
   (e = .returned (.bool true)∧J (pre ++ [x]) W'∧KeepsWalks W W')∨(e = .returned (.bool false)∧Jx (pre ++ [x]) W'))
  (W:World) (hJ:AbidesFrom W.heap.size J) (hm:W.cell? ⟨Bm,0,none⟩ = some (.map (some b))) (hown:W.ownsMap Tryz.prog 3 tok b nn D0) (h0:J [] W) :
  CallsIn Fence.wide n Tryz.prog 92 #[.func (.yield l) #[] #[], .pointer (some ⟨Bm,0,none⟩)] W fun e W'=>(∃ v,e = .returned v) ∧
   ((∃ xs,ValsAll D0 f xs∧J xs W')∨(∃ pre,ValsPart pre∧Jx pre W')):=by
 refine callsIn_of_wp Tryz.func92 rfl trivial ?_ rfl
 simp only [Tryz.ntmps92,List.size_toArray,List.length_cons,List.length_nil,Nat.reduceAdd,Nat.reduceSub,Array.replicate_succ,Array.replicate_zero,List.push_toArray,List.append_toArray,List.nil_append,List.cons_append]
 gi_wp2_with (first | (gi_at_range;refine wpListIn_range_own _ rfl _ 65 rfl 3 3 Tryz.keyI Tryz.underlying65 _ b nn _ rfl hown ?_;intro w0 hrg0 hg0 hs0) | gi_in)
 go_frame
 gi_loopw [4] (fun _ wr => ∃ (left : _root_.Go.Lit→Bool) (cnt:Nat) (ps:List (Int × Int)),wr.ranges Tryz.prog 3 tok b W.heap.size nn D0 left cnt∧ps.length + cnt≤Maps.size D0∧CollectedI D0 left (ps.map (·.1))∧(∀ p∈ps,In64 p.1∧fat f p.1 = some p.2)∧J (ps.map (·.2)) wr)
  (fun _ wr=>wr.rangeLeft b W.heap.size)
 case atStart =>
  exact ⟨_,_, [],hrg0,by simp,CollectedI.start D0,by simp,hJ [] W w0 none h0 hg0 (fun r e=>by cases e)⟩
 case round =>
  obtain ⟨left,cnt,ps,hrg,hcs,hC,hV,hJs⟩:=hrel
  gi_wp2_with (first | (gi_at_next;refine wpListIn_next_ranges _ rfl _ rfl 3 Tryz.keyI tok encZ id (fun key kl hk=>by obtain ⟨x,hx,_⟩:=Maps.keyOf_int_inv Tryz.underlying3 hk;exact ⟨x,hx⟩) (fun v _ _=>⟨v,rfl⟩) b W.heap.size nn _ _ _ rfl hrg ?_ ?_) | gi_in)
  ·intro hc0 hl0
   gi_wp2
   go_end0
   exact ⟨⟨_,rfl⟩, .inl ⟨_,⟨ps,fun x=>by rw [hC.2 x,hl0];simp,hV,rfl⟩,hJs⟩⟩
  ·intro x c kl yd yp w2 cnt2 hkey hlk hv hat hrg2 hlt hg2 hs2 hen
   obtain ⟨x',ex,rfl,hw64⟩:=Maps.keyOf_int_inv Tryz.underlying3 hkey
   obtain rfl:x = x':=encZ_inj ex
   have hx64:In64 x:=wf_in hw64
   have hhas:has D0 (.int .i64 x) = true:=Maps.has_true_of_atKey hat
   have hfx:=hf.2 x hx64
   rw [hfx.1] at hhas
   obtain ⟨y,hy⟩:=Option.isSome_iff_exists.1 hhas
   have hc:c = .int .i64 y:=by
    have h1:=hfx.2
    rw [hat] at h1
    have h2:some (DataW.held (id c),([]:List MemPlace)) = some (yd,yp):=hv
    injection h2 with h2
    injection h2 with h2 _
    rw [← h2,hy] at h1
    injection h1
   subst hc
   have hJ2:J (ps.map (·.2)) w2:=hJ _ wr w2 (some W.heap.size) hJs hg2 (fun r e=>by cases e;exact ⟨Nat.le_refl _,hrg.iter_walk⟩)
   obtain ⟨fn,tmps,assign,body,hy2,hR⟩:=hY (ps.map (·.2)) y w2 hJ2 (by simp;omega)
   clear hs2
   gi_wp2
   refine hR.mono ?_
   have hC2:CollectedI D0 (fun z=>left z && !z.sameKey (.int .i64 x)) ((ps ++ [(x,y)]).map (·.1)):=by simpa using hC.step hlk hat
   have hV2:∀ p∈ps ++ [(x,y)],In64 p.1∧fat f p.1 = some p.2:=fun p hp=>(List.mem_append.1 hp).elim (hV p) (fun e=>by simp at e;subst e;exact ⟨hx64,hy⟩)
   rintro e W3 (⟨rfl,hJ3,hk3⟩ | ⟨rfl,hJx3⟩)
   ·gi_wp2
    have hrg3:=hrg2.of_walks hk3
    go_roundw
    case rel=>exact ⟨_,cnt2,ps ++ [(x,y)],hrg3,by simp;omega,hC2,hV2,by simpa using hJ3⟩
    case measure=>rw [hrg3.left_eq,hrg.left_eq];exact hlt
   ·gi_wp2
    refine bodyPost_ret (results_none rfl _ _ _) rfl ?_
    exact ⟨⟨_,rfl⟩, .inr ⟨_,trivial,hJx3⟩⟩
theorem valuesI_stops {n:Nat} (hn:1≤n) (Bm b nn:Nat) (D0:DataW Value) {f:Nat→Option Int} (hf:InM D0 f) (w:World) (hBm:Bm < w.heap.size)
  (hm:w.cell? ⟨Bm,0,none⟩ = some (.map (some b))) (hown:w.ownsMap Tryz.prog 3 tok b nn D0) :
  SeqStops Fence.wide n Tryz.prog 92 #[.pointer (some ⟨Bm,0,none⟩)] encZ (ValsAll D0 f) ValsPart (Maps.size D0) w:=fun l J Jx W hW hJ _ hY h0=>by
 have hown':W.ownsMap Tryz.prog 3 tok b nn D0:=by
  have hbl:=hown.lt
  obtain ⟨es,clock,hb,Ft,hs,hD⟩:=hown
  exact ⟨es,clock,(hW.block b hbl).trans hb,Ft,hs,hD⟩
 exact valuesI_in hn l Bm b nn D0 hf J Jx hY W hJ ((hW.cell (p:=⟨Bm,0,none⟩) hBm).trans hm) hown' h0
set_option maxHeartbeats 1600000 in
theorem ValuesI_any (mb:Option Nat) (w:World):Calls Tryz.prog 76 #[.map mb] w fun e w' =>
  ∃ gb,e = .returned (.func (.func 92) #[] #[.pointer (some ⟨gb,0,none⟩)])∧Fs w' gb [.map mb]∧w.heap.size≤gb∧Ext w w':=by
 refine z2rz ?_
 go_enter Tryz.func76,Tryz.ntmps76
 go_wp2_with (first | ((with_reducible refine at_box ?_);refine w_box _ [.map mb] rfl rfl rfl rfl ?_;intro gb w1 hgb hX f1) | fail)
 go_ret
 exact Keep.intro ⟨gb,rfl,f1,hgb,hX⟩
theorem SortedV_any {w:World} {gb g n:Nat} {D:DataW Value} {f:Nat→Option Int} (hf:Fs w gb [.map (some g)]) (hown:w.ownsMap Tryz.prog 3 tok g n D) (hD:InM D f) (hn:n≤20000) :
  Calls Tryz.prog 75 #[.func (.func 92) #[] #[.pointer (some ⟨gb,0,none⟩)]] w fun e w' =>
   ∃ (v:Value) (l:List Int),e = .returned v∧OwnI w.heap.size w' v l∧l.Pairwise (· ≤ ·)∧(∀ x,x∈l ↔ ∃ i,f i = some x∧In64 (i:Int))∧Ext w w':=by
 refine (callsIn_wide (n:=5)).1 ?_
 have hmax:Maps.size D≤20000:=Nat.le_trans hown.size_le hn
 have hseq:=(SeqStops.gives (valuesI_stops (n:=5 - 1 - 1 - 1) (by omega) gb g n D hD w hf.lt (hf.cell (i:=0) rfl) hown))
 have cS:=AnyZI.sorted_in Tryz.sortedL Fence.wide 5 trivial trivial trivial trivial rfl (by omega) (Tryz.sortsL _) (enters_of Tryz.func87 (by kernel_rfl) rfl) 92 #[.pointer (some ⟨gb,0,none⟩)] trivial (enters_of Tryz.func92 (by kernel_rfl) rfl) _ _ (by unfold maxLen;omega) (by omega) _ hseq
 refine CallsIn.mono cS ?_
 rintro e w' ⟨v,ss,rfl,⟨ps,hk,hp,rfl⟩,hrow,_,hb⟩
 refine ⟨v,(ps.map (·.2)).mergeSort fun x y=>decide (x≤y),rfl,OwnI.of_row ?_, ?_,fun x => ?_,hb⟩
 ·rw [List.length_mergeSort];exact hrow
 ·have:=List.pairwise_mergeSort (le:=fun x y:Int=>decide (x≤y)) (fun a b c h1 h2=>by simp only [decide_eq_true_eq] at *;omega) (fun a b=>by simp only [Bool.or_eq_true,decide_eq_true_eq];omega) (ps.map (·.2))
  exact this.imp fun h=>by simpa using h
 ·rw [(List.mergeSort_perm _ _).mem_iff,List.mem_map]
  constructor
  ·rintro ⟨p,hpm,rfl⟩
   obtain ⟨h1,h2⟩:=hp p hpm
   unfold fat at h2
   split at h2
   ·cases h2
   ·refine ⟨p.1.toNat,h2, ?_⟩
    rw [Int.toNat_of_nonneg (by omega)];exact h1
  ·rintro ⟨i,hi,h64⟩
   have h1:=(hD.2 (i:Int) h64).1
   rw [fat_nat,hi] at h1
   obtain ⟨p,hpm,hpe⟩:=List.mem_map.1 ((hk (i:Int)).2 h1)
   have h2:=(hp p hpm).2
   rw [hpe,fat_nat,hi] at h2
   injection h2 with h2
   exact ⟨p,hpm,h2.symm⟩
end Go.Proofs.YtdoeoncmhaihbaaGreat
namespace Go.Proofs.YtdoeoncmhaihbaaGreat
set_option maxRecDepth 100000
open Go.RowKit
section
variable {P:Program} {ops:Array Oper} {Q:Exit→Act→World→Prop}
theorem wpAny_to (n:Nat) (hn:n≤ops.size) (hdag:dagB ops = true) (Inv:Array Bool→Act→World→Prop)
  (hwait:∀ listed:Array Bool,listed.size = ops.size→Closed ops listed→(∀ i,n≤i→i < ops.size→listed[i]? = some false)→(∃ i,i < n∧listed[i]? = some false)→∀ i,i∈Region.ready .any ops listed→i < n)
  (step:∀ (listed:Array Bool) (a:Act) (w:World) (i:Nat) (o:Oper),i < n→listed.size = ops.size→Inv listed a w→ops[i]? = some o→listed[i]? = some false→(∀ j∈deps o,listed[j]? = some true) →
   wpOp P ops Q i (Inv (listed.setIfInBounds i true)) a w)
  (fin:∀ (listed:Array Bool) (a:Act) (w:World),(∀ i,i < n→listed[i]? = some true)→Inv listed a w→Ph P ops Q n a w) :
  ∀ (f:Nat) (listed:Array Bool) (a:Act) (w:World),listed.size = ops.size→(listed.toList.take n).count false = f→Closed ops listed→(∀ i,n≤i→i < ops.size→listed[i]? = some false)→Inv listed a w→wpAny P .any ops Q (f + (ops.size - n)) listed a w:=by
 intro f
 have htake:∀ (listed:Array Bool) (i:Nat),i < n→(listed.toList.take n)[i]? = listed[i]?:=fun listed i hi=>by rw [List.getElem?_take_of_lt hi];simp
 induction f with
 | zero =>
  intro listed a w hls hcnt hcl htl hI
  have hall:∀ i,i < n→listed[i]? = some true:=fun i hi=>by
   have hm:false ∉ listed.toList.take n:=List.count_eq_zero.1 hcnt
   have hlt:i < listed.size:=by omega
   rw [Array.getElem?_eq_getElem hlt]
   cases hb:listed[i] with
   | true=>rfl
   | false=>exact absurd (List.mem_of_getElem? (by rw [htake listed i hi,Array.getElem?_eq_getElem hlt,hb])) hm
  have hlist:listed = doneTo ops n:=by
   apply Array.ext_getElem?
   intro i
   by_cases hi:i < ops.size
   ·rw [doneTo_get ops _ hi]
    by_cases hin:i < n
    ·rw [hall i hin];simp [hin]
    ·rw [htl i (by omega) hi];simp [hin]
   ·rw [Array.getElem?_eq_none (by omega),Array.getElem?_eq_none (by rw [doneTo_size];omega)]
  have:=fin listed a w hall hI
  rw [Nat.zero_add,hlist]
  exact this
 | succ f ih =>
  intro listed a w hls hcnt hcl htl hI
  obtain ⟨i0,hi0,hu0⟩:∃ i,i < n∧listed[i]? = some false:=by
   have hm:false∈listed.toList.take n:=List.count_pos_iff.1 (by omega)
   obtain ⟨i,hi,he⟩:=List.getElem_of_mem hm
   have hin:i < n:=by rw [List.length_take] at hi;omega
   refine ⟨i,hin, ?_⟩
   rw [← htake listed i hin,List.getElem?_eq_getElem hi,he]
  rw [show f + 1 + (ops.size - n) = (f + (ops.size - n)) + 1 from by omega]
  refine ⟨fun hnil => ?_,fun i hi => ?_⟩
  ·exfalso
   have hno:∀ i,i < n→listed[i]? = some true:=by
    intro i
    induction i using Nat.strongRecOn with
    | _ i ihi =>
     intro hi
     have his:i < ops.size:=by omega
     have ho:ops[i]? = some ops[i]:=Array.getElem?_eq_getElem his
     have hlt:i < listed.size:=by omega
     cases hb:listed[i] with
     | true=>rw [Array.getElem?_eq_getElem hlt,hb]
     | false =>
      have:i∈Region.ready .any ops listed:=(ready_iffL ops hls _).2 ⟨_,ho,by rw [Array.getElem?_eq_getElem hlt,hb],fun j hj=>by
       have h1:=dag_of hdag ho j hj
       exact ihi j h1 (by omega)⟩
      rw [hnil] at this;cases this
   rw [hno i0 hi0] at hu0;cases hu0
  ·have hin:i < n:=hwait listed hls hcl htl ⟨i0,hi0,hu0⟩ i hi
   obtain ⟨o,ho,hun,hdeps⟩:=(ready_iffL ops hls i).1 hi
   have hil:i < listed.size:=by omega
   have hcl':Closed ops (listed.setIfInBounds i true):=by
    intro k ok hk hl j hj
    by_cases hki:k = i
    ·subst hki;rw [ho] at hk;cases hk
     have hne:k≠j:=by have:=dag_of hdag ho j hj;omega
     rw [Array.getElem?_setIfInBounds_ne hne];exact hdeps j hj
    ·rw [Array.getElem?_setIfInBounds_ne (Ne.symm hki)] at hl
     have:=hcl k ok hk hl j hj
     by_cases hij:i = j
     ·subst hij;rw [hun] at this;cases this
     ·rw [Array.getElem?_setIfInBounds_ne hij];exact this
   refine wpOp_mono (fun a' w' hI'=>ih _ a' w' (by simpa using hls) ?_ hcl' (fun k h1 h2=>by rw [Array.getElem?_setIfInBounds_ne (by omega)];exact htl k h1 h2) hI') (step listed a w i o hin hls hI ho hun hdeps)
   have hlf:(listed.toList.take n)[i]? = some false:=by rw [htake listed i hin];exact hun
   have:=count_set_true _ _ hlf
   rw [Array.toList_setIfInBounds,List.take_set]
   omega
structure IFr (w0:World) (a0:Act) (idx mk:List Nat) (dst:Nat→Nat) (V:Nat→Value→Prop) (K:Nat→Value→(Nat→Prop)→World→Prop) (listed:Array Bool) (a:Act) (w:World):Prop where
 sz:a.tmps.size = a0.tmps.size
 df:a.defers = a0.defers
 ext:Ext w0 w
 out:∀ t,(∀ i∈idx ++ mk,t≠dst i)→a.tmps.getD t undef = a0.tmps.getD t undef
 val:∀ i∈idx,listed[i]? = some true→V i (a.tmps.getD (dst i) undef)
 blk:∃ B:Nat→Nat→Prop,(∀ i∈mk,listed[i]? = some true→K i (a.tmps.getD (dst i) undef) (B i) w∧∀ k,B i k→w0.heap.size≤k∧k < w.heap.size) ∧
  ∀ i∈mk, ∀ j∈mk,i≠j→listed[i]? = some true→listed[j]? = some true→∀ k,B i k→¬ B j k
theorem Ph.fresh {a:Act} {w:World} (n:Nat) (idx mk:List Nat) (dst:Nat→Nat) (V:Nat→Value→Prop) (K:Nat→Value→(Nat→Prop)→World→Prop)
  (hg:gateB ops 0 n = true) (hdag:dagB ops = true) (hcov:((List.range n).all fun i=>idx.contains i || mk.contains i) = true) (hib:((idx ++ mk).all fun i=>decide (i < n)) = true) (hdis:(idx.all fun i => !(mk.contains i)) = true)
  (hinj:((idx ++ mk).all fun i=>(idx ++ mk).all fun j=>i == j || !(dst i == dst j)) = true) (hlt:∀ i∈idx ++ mk,dst i < a.tmps.size)
  (hK:∀ i v B w w',K i v B w→Ext w w'→K i v B w')
  (steps:∀ i∈idx, ∀ (b:Act) (w':World),Ext w w'→(∀ t,(∀ j∈idx ++ mk,t≠dst j)→b.tmps.getD t undef = a.tmps.getD t undef)→(∀ j,j∈idx→((ops[i]?).map fun o=>(deps o).contains j).getD false = true→V j (b.tmps.getD (dst j) undef)) →
   wpOp P ops Q i (fun b' w'' => ∃ x,b' = b.put (some (dst i)) x∧V i x∧Ext w' w'') b w')
  (makes:∀ i∈mk, ∀ (b:Act) (w':World),Ext w w'→(∀ t,(∀ j∈idx ++ mk,t≠dst j)→b.tmps.getD t undef = a.tmps.getD t undef)→(∀ j,j∈idx→((ops[i]?).map fun o=>(deps o).contains j).getD false = true→V j (b.tmps.getD (dst j) undef)) →
   wpOp P ops Q i (fun b' w'' => ∃ x B,b' = b.put (some (dst i)) x∧K i x B w''∧Ext w' w''∧∀ k,B k→w'.heap.size≤k∧k < w''.heap.size) b w')
  (fin:∀ (w':World) (x:Nat→Value) (B:Nat→Nat→Prop),Ext w w'→(∀ i∈idx,V i (x i))→(∀ i∈mk,K i (x i) (B i) w'∧∀ k,B i k→w.heap.size≤k∧k < w'.heap.size)→(∀ i∈mk, ∀ j∈mk,i≠j→∀ k,B i k→¬ B j k) →
   Ph P ops Q n ((idx ++ mk).foldl (fun b i=>b.put (some (dst i)) (x i)) a) w'):Ph P ops Q 0 a w:=by
 have hnl:n < ops.size:=by simp only [gateB,Bool.and_eq_true,decide_eq_true_eq] at hg;exact hg.1.1.2
 have hne:∀ i∈idx ++ mk, ∀ j∈idx ++ mk,i≠j→dst i≠dst j:=fun i hi j hj hij e=>by
  simp only [List.all_eq_true,Bool.or_eq_true,beq_iff_eq,Bool.not_eq_true',beq_eq_false_iff_ne] at hinj
  exact (hinj i hi j hj).elim hij fun h=>h e
 have hbn:∀ i∈idx ++ mk,i < n:=fun i hi=>by simp only [List.all_eq_true,decide_eq_true_eq] at hib;exact hib i hi
 have hd0:doneTo ops 0 = Array.replicate ops.size false:=by
  apply Array.ext_getElem?
  intro i
  by_cases hi:i < ops.size
  ·rw [doneTo_get ops _ hi];simp [hi]
  ·rw [Array.getElem?_eq_none (by rw [doneTo_size];omega),Array.getElem?_eq_none (by simp;omega)]
 have hf0:∀ i:Nat,(Array.replicate ops.size false)[i]?≠some true:=fun i hl=>by
  rw [Array.getElem?_replicate] at hl;split at hl <;> simp at hl
 have key:=wpAny_to (P:=P) (Q:=Q) n (by omega) hdag (fun listed b w'=>IFr w a idx mk dst V K listed b w') (fun listed hls hcl htl hun i hi => ?_) ?_ ?_ n (Array.replicate ops.size false) a w (by simp) (by simp;omega) (fun i o hi hl=>absurd hl (hf0 i)) (fun i _ h=>by simp [h])
  ⟨rfl,rfl,Ext.refl w,fun _ _=>rfl,fun i _ hl=>absurd hl (hf0 i),fun _ _=>False,fun i _ hl=>absurd hl (hf0 i),fun i _ _ _ _ hl=>absurd hl (hf0 i)⟩
 ·unfold Ph
  rw [hd0,Nat.sub_zero]
  rwa [show n + (ops.size - n) = ops.size from by omega] at key
 ·rcases Nat.lt_or_ge i n with h | h
  ·exact h
  ·exfalso
   obtain ⟨o,ho,hu,hdeps⟩:=(ready_iffL ops hls i).1 hi
   obtain ⟨i0,hi0,hu0⟩:=hun
   rcases Nat.lt_or_ge n i with h2 | h2
   ·have:=gate_behind hg hcl i o h2 ho hdeps
    rw [htl n (Nat.le_refl _) hnl] at this;cases this
   ·obtain rfl:i = n:=by omega
    have:=gate_before hg hcl ho hdeps i0 (Nat.zero_le _) hi0
    rw [hu0] at this;cases this
 ·intro listed b w' i o hin hls h ho hun hdeps
  have his:i < ops.size:=by omega
  have hil:i < listed.size:=by omega
  have hL:∀ j,(listed.setIfInBounds i true)[j]? = some true ↔ j = i∨listed[j]? = some true:=fun j=>by
   rw [show ((listed.setIfInBounds i true)[j]? = some true) = (j = i∨listed[j]? = some true) from congrFun (put_listed listed i hil) j]
  have hdep:∀ j,((ops[i]?).map fun o=>(deps o).contains j).getD false = true→listed[j]? = some true:=fun j hb=>by
   rw [ho] at hb
   exact hdeps j (by simpa using hb)
  have hmem:i∈idx ++ mk:=by
   simp only [List.all_eq_true,List.mem_range,Bool.or_eq_true,List.contains_iff_mem] at hcov
   exact List.mem_append.2 (hcov i hin)
  have hd:dst i < b.tmps.size:=by rw [h.sz];exact hlt i hmem
  have hunl:¬ listed[i]? = some true:=by rw [hun];simp
  rcases List.mem_append.1 hmem with hi | hi
  ·refine wpOp_mono (fun b' w'' => ?_) (steps i hi b w' h.ext h.out fun j hj hb=>h.val j hj (hdep j hb))
   rintro ⟨x,rfl,hv,hx⟩
   obtain ⟨B,hB1,hB2⟩:=h.blk
   have him:i ∉ mk:=fun hm=>by simp only [List.all_eq_true,Bool.not_eq_true', ← Bool.not_eq_true,List.contains_iff_mem] at hdis;exact hdis i hi hm
   refine ⟨by rw [Act.put_size];exact h.sz,by rw [Act.put_defers'];exact h.df,h.ext.trans hx,fun t ht => ?_,fun j hj hl => ?_,B,fun j hj hl => ?_,fun j hj k hk hjk hl1 hl2 => ?_⟩
   ·rw [put_getD hd,if_neg (ht i hmem)];exact h.out t ht
   ·by_cases hji:j = i
    ·subst hji;rw [put_getD hd,if_pos rfl];exact hv
    ·rw [put_getD hd,if_neg (hne j (List.mem_append_left _ hj) i hmem hji)];exact h.val j hj (((hL j).1 hl).resolve_left hji)
   ·have hji:j≠i:=fun e=>him (e ▸ hj)
    obtain ⟨q1,q2⟩:=hB1 j hj (((hL j).1 hl).resolve_left hji)
    rw [put_getD hd,if_neg (hne j (List.mem_append_right _ hj) i hmem hji)]
    exact ⟨hK _ _ _ _ _ q1 hx,fun k hk=>⟨(q2 k hk).1,Nat.lt_of_lt_of_le (q2 k hk).2 hx.size⟩⟩
   ·exact hB2 j hj k hk hjk (((hL j).1 hl1).resolve_left fun e=>him (e ▸ hj)) (((hL k).1 hl2).resolve_left fun e=>him (e ▸ hk))
  ·refine wpOp_mono (fun b' w'' => ?_) (makes i hi b w' h.ext h.out fun j hj hb=>h.val j hj (hdep j hb))
   rintro ⟨x,B0,rfl,hv,hx,hnew⟩
   obtain ⟨B,hB1,hB2⟩:=h.blk
   have hid:i ∉ idx:=fun hm=>by simp only [List.all_eq_true,Bool.not_eq_true', ← Bool.not_eq_true,List.contains_iff_mem] at hdis;exact hdis i hm hi
   refine ⟨by rw [Act.put_size];exact h.sz,by rw [Act.put_defers'];exact h.df,h.ext.trans hx,fun t ht => ?_,fun j hj hl => ?_,fun j=>if j = i then B0 else B j,fun j hj hl => ?_,fun j hj k hk hjk hl1 hl2 => ?_⟩
   ·rw [put_getD hd,if_neg (ht i hmem)];exact h.out t ht
   ·have hji:j≠i:=fun e=>hid (e ▸ hj)
    rw [put_getD hd,if_neg (hne j (List.mem_append_left _ hj) i hmem hji)]
    exact h.val j hj (((hL j).1 hl).resolve_left hji)
   ·by_cases hji:j = i
    ·subst hji
     rw [put_getD hd,if_pos rfl]
     simp only [if_true]
     exact ⟨hv,fun k hk=>⟨Nat.le_trans h.ext.size (hnew k hk).1,(hnew k hk).2⟩⟩
    ·obtain ⟨q1,q2⟩:=hB1 j hj (((hL j).1 hl).resolve_left hji)
     rw [put_getD hd,if_neg (hne j (List.mem_append_right _ hj) i hmem hji)]
     simp only [if_neg hji]
     exact ⟨hK _ _ _ _ _ q1 hx,fun k hk=>⟨(q2 k hk).1,Nat.lt_of_lt_of_le (q2 k hk).2 hx.size⟩⟩
   ·intro m hm1 hm2
    by_cases hji:j = i
    ·rw [if_pos hji] at hm1
     have hki:k≠i:=fun e=>hjk (hji.trans e.symm)
     rw [if_neg hki] at hm2
     have h1:=hnew m hm1
     have h2:=(hB1 k hk (((hL k).1 hl2).resolve_left hki)).2 m hm2
     omega
    ·rw [if_neg hji] at hm1
     by_cases hki:k = i
     ·rw [if_pos hki] at hm2
      have h1:=hnew m hm2
      have h2:=(hB1 j hj (((hL j).1 hl1).resolve_left hji)).2 m hm1
      omega
     ·rw [if_neg hki] at hm2
      exact hB2 j hj k hk hjk (((hL j).1 hl1).resolve_left hji) (((hL k).1 hl2).resolve_left hki) m hm1 hm2
 ·intro listed b w' hall h
  obtain ⟨e1,e2,e3⟩:=puts_all b dst (idx ++ mk) a hlt
  have he:b = (idx ++ mk).foldl (fun c i=>c.put (some (dst i)) (b.tmps.getD (dst i) undef)) a:=by
   refine act_eq (by rw [e1];exact h.sz) (by rw [e2];exact h.df) fun t => ?_
   rw [e3 t]
   by_cases hm:t∈(idx ++ mk).map dst
   ·rw [if_pos hm]
   ·rw [if_neg hm]
    exact h.out t fun i hi e=>hm (List.mem_map.2 ⟨i,hi,e.symm⟩)
  rw [he]
  obtain ⟨B,hB1,hB2⟩:=h.blk
  have hl:∀ i∈idx ++ mk,listed[i]? = some true:=fun i hi=>hall i (hbn i hi)
  exact fin w' (fun i=>b.tmps.getD (dst i) undef) B h.ext (fun i hi=>h.val i hi (hl i (List.mem_append_left _ hi))) (fun i hi=>hB1 i hi (hl i (List.mem_append_right _ hi))) fun i hi j hj hij=>hB2 i hi j hj hij (hl i (List.mem_append_right _ hi)) (hl j (List.mem_append_right _ hj))
end
end Go.Proofs.YtdoeoncmhaihbaaGreat
namespace Go.Proofs.YtdoeoncmhaihbaaGreat
set_option maxHeartbeats 3200000
set_option maxRecDepth 100000
open Go.RowKit
theorem rdI {f:FuncId} {args:Array Value} {w:World} {base:Nat} {l:List Int} (h:Calls Tryz.prog f args w fun e w' => ∃ u,e = .returned u∧OwnI base w' u l∧Ext w w'):Calls Tryz.prog f args w fun e w' => ∃ v',e = .returned v'∧Ext w w'∧Sp.p (Sp.ints l) v' w':=by
 refine h.mono ?_
 rintro e w' ⟨u,rfl,o,hx⟩
 exact ⟨u,rfl,hx,o.ints⟩
theorem said_step (said:Nat→Option Int) (v:Int) (n:Nat):CoD.saidSet said (n + 1) v = CoD.saidSet said n v ++ (if decide (said n = some v) = true then [(n:Int)] else []):=by
 unfold CoD.saidSet;exact picks_succ _ n
theorem said_no {said:Nat→Option Int} {v:Int} {n:Nat} (h:said n≠some v):CoD.saidSet said (n + 1) v = CoD.saidSet said n v:=by
 rw [said_step,if_neg (by simpa using h),List.append_nil]
theorem said_yes {said:Nat→Option Int} {v:Int} {n:Nat} (h:said n = some v):CoD.saidSet said (n + 1) v = CoD.saidSet said n v ++ [(n:Int)]:=by
 rw [said_step,if_pos (by simpa using h)]
theorem said_i64 (said:Nat→Option Int) (v:Int) {n:Nat} (hn:n≤1000):I64s (CoD.saidSet said n v)∧(CoD.saidSet said n v).length * 8≤140737488351232:=by
 refine ⟨fun x hx => ?_, ?_⟩
 ·unfold CoD.saidSet at hx
  obtain ⟨i,hi,_,rfl⟩:=mem_picks.1 hx
  have:=In64.nat (n:=i) (by omega)
  unfold In64 at this;exact this
 ·have:(CoD.saidSet said n v).length≤n:=by unfold CoD.saidSet picks;rw [List.length_map];exact Nat.le_trans (List.length_filter_le _ _) (by simp)
  omega
theorem whoSaid_core {S:Nat→Nat} {w:World} {p q gp gs:Nat} {sv dv:Value} {c:CoD} {v:Int} (h:CorW S w p sv dv q gp gs c) {L:List Int} (hL0:CoD.saidSet c.said c.t.length v = L) :
  Calls Tryz.prog 78 #[.pointer (some ⟨p,0,none⟩), .int .i64 v] w fun e w' => ∃ u,e = .returned u∧OwnI w.heap.size w' u L∧Ext w w':=by
 refine z2rz ?_
 have hC:=hide_ h
 have hL:=hide_ hL0
 have hX:=Ext.refl w
 obtain ⟨nn,D,_,hso,hsd⟩:=h.sad
 have hin:=hide_ (show InR nn w (some gs) c.said from ⟨nn,D,Nat.le_refl _,hso,hsd.1⟩)
 have hlt:=h.st.2.1
 obtain ⟨n,hn0⟩:∃ n,c.t.length = n:=⟨_,rfl⟩
 have hn:=hide_ hn0
 rw [hn0] at hlt
 have hst:=hide_ (show Ints w sv c.t from h.stk)
 clear h hL0 hso hsd hn0
 go_enter Tryz.func78,Tryz.ntmps78
 go_wp2_with ((first | ((with_reducible refine at_bi ?_);refine i_len _ rfl rfl rfl (hst.out.ext hX) ?_;rw [hn.out]) | refine z42z ?_ | fail) <;> (try refine z0z ?_))
 go_loopw [5,14] (fun s i wr => ∃ (k:Nat),i = .int .i64 k∧k≤n∧OwnI w.heap.size wr s (CoD.saidSet c.said k v)∧Ext w wr) (fun _ i _=>n - (RowKit.intOf i).toNat)
 case atStart=>exact ⟨0,rfl,Nat.zero_le _,OwnI.nil _ _,hX⟩
 case round =>
  clear hX
  obtain ⟨k,rfl,hk,hl,hX⟩:=hrel
  by_cases hge:n≤k
  ·obtain rfl:k = n:=by omega
   have t2:decide ((k:Int) < (k:Int)) = false:=by simp
   clear hge
   go_wp2
   go_ret
   exact Keep.intro ⟨_,rfl,by rw [← hL.out,hn.out];exact hl,hX⟩
  have hlk:k < n:=by omega
  have t2:decide ((k:Int) < (n:Int)) = true:=by simp;omega
  have hk64:=hide_ (show In64 (k:Int) from In64.nat (by omega))
  have hk':=hide_ hlk
  obtain ⟨r,hr0⟩:∃ r,c.said k = r:=⟨_,rfl⟩
  have hr:=hide_ (show fat c.said (k:Int) = r from by rw [fat_nat];exact hr0)
  have hbig:=hide_ (show ((CoD.saidSet c.said k v).length + 1) * 8≤140737488355328 from by have:=(said_i64 c.said v (n:=k) (by omega)).2;omega)
  have hs0:=hide_ (show w.heap.size≤wr.heap.size from hX.size)
  cases r with
  | none =>
   have hn2:=hide_ (show CoD.saidSet c.said (k + 1) v = CoD.saidSet c.said k v from said_no (by rw [hr0];simp))
   clear hr0 hge hlk
   go_wp2_with ((first | go_big_skip | (refine z5mz ?_;simp only [Option.getD_none,Option.isSome_none]) | (refine z3uz ?_;simp only [List.getElem_toArray,List.getElem_cons_succ,List.getElem_cons_zero]) | refine z1rz ?_ | fail) <;> (try refine z0z ?_))
   go_roundw
   case rel=>exact ⟨k + 1,by go_num,hk'.out,by rw [hn2.out];exact hl,hX⟩
   case measure=>have:=hk'.out;simp [RowKit.intOf];omega
  | some y =>
   cases hq:(y == v)
   ·have hn2:=hide_ (show CoD.saidSet c.said (k + 1) v = CoD.saidSet c.said k v from said_no (by rw [hr0];intro e;injection e with e;rw [e] at hq;simp at hq))
    clear hr0 hge hlk
    go_wp2_with ((first | go_big_skip | (refine z5mz ?_;simp only [Option.getD_some,Option.isSome_some]) | (refine z3uz ?_;simp only [List.getElem_toArray,List.getElem_cons_succ,List.getElem_cons_zero]) | refine z1rz ?_ | fail) <;> (try refine z0z ?_))
    go_roundw
    case rel=>exact ⟨k + 1,by go_num,hk'.out,by rw [hn2.out];exact hl,hX⟩
    case measure=>have:=hk'.out;simp [RowKit.intOf];omega
   ·have hn2:=hide_ (show CoD.saidSet c.said (k + 1) v = CoD.saidSet c.said k v ++ [(k:Int)] from said_yes (by rw [hr0,show y = v from by simpa using hq]))
    clear hr0 hge hlk
    go_wp2_with ((first | go_big_skip | (refine z5mz ?_;simp only [Option.getD_some,Option.isSome_some]) | (refine z3uz ?_;simp only [List.getElem_toArray,List.getElem_cons_succ,List.getElem_cons_zero]) | ((with_reducible refine at_lit ?_);refine w_new Tryz.elI (i64s [(k:Int)]) rfl rfl rfl (i64s_cells _) rfl (by omega) ?_;intro v5 w5 hx5 o5;replace o5:OwnI _ w5 v5 [(k:Int)]:=o5;replace hl:=hl.ext hx5;have hs5:=hide_ (Nat.le_trans hs0.out hx5.size);replace hX:=hX.trans hx5;clear hx5) | (refine z62z ?_;intro v9 w9 o9 hb9 hg9 hg9';replace hX:=hX.trans' hb9) | refine z1rz ?_ | fail) <;> (try refine z0z ?_))
    go_roundw
    case rel=>exact ⟨k + 1,by go_num,hk'.out,by rw [hn2.out];exact o9,hX⟩
    case measure=>have:=hk'.out;simp [RowKit.intOf];omega
theorem said_mem {t:List Int} {said:Nat→Option Int} {x:Int}:x∈CoD.saidAll t said ↔ ∃ i,i < t.length∧said i = some x∧some3 t (CoD.saidSet said t.length x) = true:=by
 unfold CoD.saidAll
 rw [List.mem_filterMap]
 constructor
 ·rintro ⟨i,hi,he⟩
  split at he
  ·rename_i v hv
   split at he
   ·rename_i hs
    injection he with he
    subst he
    exact ⟨i,List.mem_range.1 hi,hv,hs⟩
   ·cases he
  ·cases he
 ·rintro ⟨i,hi,hv,hs⟩
  exact ⟨i,List.mem_range.2 hi,by rw [hv];simp only;rw [if_pos hs]⟩
theorem heard_none {t:List Int} {said:Nat→Option Int} {l:List Int} (hm:∀ x,x∈l ↔ ∃ i,said i = some x∧In64 (i:Int)) (ht:t.length≤7) (h:∀ x∈l,some3 t (CoD.saidSet said t.length x) = false):CoD.saidOf t said = none:=by
 unfold CoD.saidOf
 rw [List.min?_eq_none_iff,List.eq_nil_iff_forall_not_mem]
 intro x hx
 obtain ⟨i,hi,hv,hs⟩:=said_mem.1 hx
 rw [h x ((hm x).2 ⟨i,hv,In64.nat (by omega)⟩)] at hs
 cases hs
theorem heard_some {t:List Int} {said:Nat→Option Int} {l:List Int} (hm:∀ x,x∈l ↔ ∃ i,said i = some x∧In64 (i:Int)) (hl:l.Pairwise (· ≤ ·)) (ht:t.length≤7) (hsd:∀ i,said i≠none→i < t.length) {k:Nat} {y:Int} (hy:l[k]? = some y) (hs:some3 t (CoD.saidSet said t.length y) = true)
  (h:∀ x∈l.take k,some3 t (CoD.saidSet said t.length x) = false):CoD.saidOf t said = some y:=by
 unfold CoD.saidOf
 rw [List.min?_eq_some_iff]
 refine ⟨?_,fun x hx => ?_⟩
 ·obtain ⟨i,hi,_⟩:=(hm y).1 (List.mem_of_getElem? hy)
  exact said_mem.2 ⟨i,hsd i (by rw [hi];simp),hi,hs⟩
 ·obtain ⟨i,hi,hv,hs'⟩:=said_mem.1 hx
  have hxl:=(hm x).2 ⟨i,hv,In64.nat (by omega)⟩
  obtain ⟨j,hj,hjx⟩:=List.getElem_of_mem hxl
  obtain ⟨hk,hky⟩:=List.getElem?_eq_some_iff.1 hy
  rcases Nat.lt_or_ge j k with h1 | h1
  ·have:=h x (List.mem_take_iff_getElem.2 ⟨j,by omega,hjx⟩)
   rw [this] at hs';cases hs'
  ·rcases Nat.lt_or_ge k j with h2 | h2
   ·have:=List.pairwise_iff_getElem.1 hl k j hk hj h2
    rw [hky,hjx] at this;exact this
   ·obtain rfl:j = k:=by omega
    rw [← hky, ← hjx];exact Int.le_refl _
theorem heard_core {S:Nat→Nat} {w:World} {p q gp gs:Nat} {sv dv:Value} {c:CoD} (h:CorW S w p sv dv q gp gs c) {r0:Option Int} (hr0:CoD.saidOf c.t c.said = r0) :
  Calls Tryz.prog 59 #[.pointer (some ⟨p,0,none⟩)] w fun e w'=>e = .returned (.tuple #[.int .i64 (r0.getD 0), .bool r0.isSome])∧Ext w w':=by
 refine z2rz ?_
 have hC:=hide_ h
 have hR:=hide_ hr0
 have hX:=Ext.refl w
 obtain ⟨nn,D,hnn,hso0,hsd⟩:=h.sad
 have hso:=hide_ hso0
 have hD:=hide_ hsd.1
 have hsdn:=hide_ hsd.2
 have hst:=hide_ h.st
 have ht7:=hide_ h.st.2.1
 have hws0:=hide_ (fun y=>said_i64 c.said y (n:=c.t.length) (by have:=h.st.2.1;omega))
 have hn2:=hide_ (show nn≤20000 from by omega)
 clear h hr0 hso0 hsd hnn
 go_enter Tryz.func59,Tryz.ntmps59
 go_wp2_with ((first | (go_at_call 76;refine (ValuesI_any _ _).mono ?_;rintro e w2 ⟨gb,rfl,fb,hgb,hx⟩;replace hX:=hX.trans hx;clear hx) | (go_at_call 75;refine (SortedV_any fb (ownsMap_ext hso.out hX) hD.out hn2.out).mono ?_;rintro e w3 ⟨u,l,rfl,o3,hsort0,hmem0,hx⟩;have ol:=o3.ints;have hmx:=ol.len_le;have hsort:=hide_ hsort0;have hmem:=hide_ hmem0;clear hsort0 hmem0 o3;replace hX:=hX.trans hx;clear hx) | ((with_reducible refine at_bi ?_);refine i_len _ rfl rfl rfl ol ?_) | refine z1rz ?_ | fail) <;> (try refine z0z ?_))
 unfold maxLen at hmx
 have ol0:=hide_ ol
 have hX0:=hide_ hX
 obtain ⟨n,hn0⟩:∃ n,l.length = n:=⟨_,rfl⟩
 rw [hn0] at hmx ⊢
 have hn:=hide_ hn0
 clear hn0
 go_loopw [14] (fun i wr => ∃ (k:Nat),i = .int .i64 k∧k≤n∧Hid (∀ x∈l.take k,some3 c.t (CoD.saidSet c.said c.t.length x) = false)∧Ints wr u l∧Ext w wr) (fun i _=>n - (RowKit.intOf i).toNat)
 case atStart=>exact ⟨0,rfl,Nat.zero_le _,hide_ (by simp),ol,hX⟩
 case round =>
  clear ol hX
  obtain ⟨k,rfl,hk,hnt,ol,hX⟩:=hrel
  by_cases hge:n≤k
  ·obtain rfl:k = n:=by omega
   have t2:decide ((k:Int) < (k:Int)) = false:=by simp
   have hnone:=hide_ (show r0 = none from by rw [← hR.out];exact heard_none hmem.out ht7.out (by have:=hnt.out;rw [← hn.out,List.take_length] at this;exact this))
   clear hge
   go_wp2
   go_ret2
   exact Keep.intro ⟨by rw [hnone.out];rfl,hX⟩
  have hlk:k < n:=by omega
  have t2:decide ((k:Int) < (n:Int)) = true:=by simp;omega
  have hk':=hide_ hlk
  have hkl:=hide_ (show k < l.length from by rw [hn.out];exact hlk)
  obtain ⟨y,hy0⟩:∃ y,l[k]? = some y:=⟨_,List.getElem?_eq_getElem (by rw [hn.out];exact hlk)⟩
  have hy:=hide_ hy0
  have hyg:=hide_ (show l[k]'(hkl.out) = y from (List.getElem?_eq_some_iff.1 hy0).2)
  have hws:=hide_ (hws0.out y)
  have e0:l.take (k + 1) = l.take k ++ [y]:=by rw [List.take_add_one,hy0];rfl
  cases hr1:some3 c.t (CoD.saidSet c.said c.t.length y)
  ·have hr:=hide_ hr1
   have hnt2:=hide_ (show ∀ x∈l.take (k + 1),some3 c.t (CoD.saidSet c.said c.t.length x) = false from by
    rw [e0]
    intro x hx
    rcases List.mem_append.1 hx with hx | hx
    ·exact hnt.out x hx
    ·rw [List.mem_singleton] at hx;subst hx;exact hr1)
   clear hge hlk hy0 e0 hr1 hnt
   go_wp2_with ((first | ((with_reducible refine at_idx ?_);refine i_idx _ _ k rfl rfl rfl ol rfl hkl.out ?_;intro ad had;rw [hyg.out] at had) | fail) <;> (try refine z0z ?_))
   refine zmz ?_;intro wd hxd;have HC:=hC.out.ext (hX.trans hxd);have F0:=HC.obj;have ST:=HC.stk
   refine z5ez ?_
   refine LinL.step (s:=(.val (.bool false))) [(21,some 3),(24,some 0)] rfl (by kernel_rfl) (op_calls 77 #[(.tmp 21),(.tmp 24)] #[22,22] (fun σ => #[sv,σ.tmps.getD 24 undef]) rfl rfl (fun _ _=>rfl) fun σ w' hx hg=>⟨by have h21 : σ.tmps.getD 21 undef = sv:=hg.1;simp only [List.map_toArray,List.map_cons,List.map_nil,Act.eval,h21],someR ⟨hst.out,ST.ext hx,hg.2.1,hws.out.1,hws.out.2⟩ hr.out⟩) ?_
   intro wN hxN
   refine z4fz ?_
   intro q24 hq24
   refine z0z ?_
   replace hX:=hX.trans (hxd.trans hxN);replace ol:=ol.ext (hxd.trans hxN)
   go_wp2
   go_roundw
   case rel=>exact ⟨k + 1,by go_num,hk'.out,hnt2,ol,hX⟩
   case measure=>have:=hk'.out;simp [RowKit.intOf];omega
  ·have hr:=hide_ hr1
   have hsome:=hide_ (show r0 = some y from by rw [← hR.out];exact heard_some hmem.out hsort.out ht7.out hsdn.out hy0 hr1 hnt.out)
   clear hge hlk hy0 e0 hr1 hnt
   go_wp2_with ((first | ((with_reducible refine at_idx ?_);refine i_idx _ _ k rfl rfl rfl ol rfl hkl.out ?_;intro ad had;rw [hyg.out] at had) | fail) <;> (try refine z0z ?_))
   refine zmz ?_;intro wd hxd;have HC:=hC.out.ext (hX.trans hxd);have F0:=HC.obj;have ST:=HC.stk
   refine z5ez ?_
   refine LinL.step (s:=(.val (.bool true))) [(21,some 3),(24,some 0)] rfl (by kernel_rfl) (op_calls 77 #[(.tmp 21),(.tmp 24)] #[22,22] (fun σ => #[sv,σ.tmps.getD 24 undef]) rfl rfl (fun _ _=>rfl) fun σ w' hx hg=>⟨by have h21 : σ.tmps.getD 21 undef = sv:=hg.1;simp only [List.map_toArray,List.map_cons,List.map_nil,Act.eval,h21],someR ⟨hst.out,ST.ext hx,hg.2.1,hws.out.1,hws.out.2⟩ hr.out⟩) ?_
   intro wN hxN
   refine z4fz ?_
   intro q24 hq24
   refine z0z ?_
   replace hX:=hX.trans (hxd.trans hxN);replace ol:=ol.ext (hxd.trans hxN)
   go_wp2
   go_ret2
   exact Keep.intro ⟨by rw [hsome.out];rfl,hX⟩
theorem run_rbuild (q gp gs:Nat) (w:World):(Instr.build 69 #[(3, .pointer (some ⟨q,0,none⟩)),(4, .map (some gp)),(5, .map (some gs)),(6, .agg #[.int .i64 0, .int .i64 (-1)]),(7, .agg #[.int .i64 0, .int .i64 (-1)])]).run Tryz.prog w = .ok (.agg #[.int .i64 0, .int .i64 0, .int .i64 0, .pointer (some ⟨q,0,none⟩), .map (some gp), .map (some gs), .int .i64 0, .int .i64 (-1), .int .i64 0, .int .i64 (-1)]) w:=by
 unfold Instr.build
 simp [run_underlying Tryz.underlying69,Tryz.sizeOf3,Tryz.sizeOf62,Tryz.sizeOf63,Tryz.sizeOf64,Tryz.sizeOf65,Tryz.sizeOf67,Instr.fill,Value.cells]
theorem runs_rbuild {o:Oper} {ρ:Operand→Value} {w:World} (x y z u v:Operand) {q gp gs:Nat} (ho:o.op = .build 69 #[(3,x),(4,y),(5,z),(6,u),(7,v)]) (hx : ρ x = .pointer (some ⟨q,0,none⟩)) (hy : ρ y = .map (some gp)) (hz : ρ z = .map (some gs)) (hu : ρ u = .agg #[.int .i64 0, .int .i64 (-1)]) (hv : ρ v = .agg #[.int .i64 0, .int .i64 (-1)]):Runs Tryz.prog o ρ w (.agg #[.int .i64 0, .int .i64 0, .int .i64 0, .pointer (some ⟨q,0,none⟩), .map (some gp), .map (some gs), .int .i64 0, .int .i64 (-1), .int .i64 0, .int .i64 (-1)]):=by
 have hr:=run_rbuild q gp gs w
 unfold Runs execOp
 simp [ho,hx,hy,hz,hu,hv,hr]
theorem Tryz.agRound:AgT Tryz.prog 69 10 [.int .i64 0, .int .i64 0, .int .i64 0, .pointer none, .map none, .map none, .int .i64 0, .int .i64 0, .int .i64 0, .int .i64 0]:=AgT.of (by kernel_rfl) (by kernel_rfl) rfl
theorem Tryz.stPrepS:St Tryz.prog 67 2 [.int .i64 0, .int .i64 0]:=St.of (by kernel_rfl) (by kernel_rfl) rfl
def NRK (t:List Int) (i:Nat) (x:Value) (B:Nat→Prop) (w:World):Prop:=match i with
 | 1 => ∃ q,x = .pointer (some ⟨q,0,none⟩)∧Tal B w q t T0 0
 | _ => ∃ g,x = .map (some g)∧w.ownsMap Tryz.prog 3 tok g 0 (.map [])∧B g
theorem NRK.ext {t:List Int}:∀ (i:Nat) (v:Value) (B:Nat→Prop) (w w':World),NRK t i v B w→Ext w w'→NRK t i v B w':=fun i v B w w' h he=>by
 unfold NRK at h ⊢
 split at h
 ·obtain ⟨q,h1,sv,g,D,m,h2⟩:=h;exact ⟨q,h1,sv,g,D,m,h2.ext he⟩
 ·obtain ⟨g,h1,h2,h3⟩:=h;exact ⟨g,h1,ownsMap_ext h2 he,h3⟩
def NRd (lo:Nat) (t:List Int) (v:Value) (w:World):Prop := ∃ q gp gs X,v = .agg #[.int .i64 0, .int .i64 0, .int .i64 0, .pointer (some ⟨q,0,none⟩), .map (some gp), .map (some gs), .int .i64 0, .int .i64 (-1), .int .i64 0, .int .i64 (-1)]∧Tal X w q t T0 0∧w.ownsMap Tryz.prog 3 tok gp 0 (.map [])∧w.ownsMap Tryz.prog 3 tok gs 0 (.map [])∧(∀ k,X k→lo≤k∧k < w.heap.size)∧lo≤gp∧lo≤gs∧¬ X gp∧¬ X gs∧gp≠gs
theorem NRd.ext {lo:Nat} {t:List Int} {v:Value} {w w':World} (h:NRd lo t v w) (he:Ext w w'):NRd lo t v w':=by
 obtain ⟨q,gp,gs,X,h1,⟨sv,g,D,m,h2⟩,h3,h4,h5,h6⟩:=h
 exact ⟨q,gp,gs,X,h1,⟨sv,g,D,m,h2.ext he⟩,ownsMap_ext h3 he,ownsMap_ext h4 he,fun k hk=>⟨(h5 k hk).1,Nat.lt_of_lt_of_le (h5 k hk).2 he.size⟩,h6⟩
def Sp.nround (lo:Nat) (t:List Int):Sp := .any (NRd lo t) fun _ _ _ h he=>h.ext he
theorem newRound_any {w:World} {v:Value} {t:List Int} (hv0:Ints w v t) (ht0:StOk t) :
  Calls Tryz.prog 21 #[v] w fun e w' => ∃ u,e = .returned u∧NRd w.heap.size t u w'∧Ext w w':=by
 refine z2rz ?_
 have hv:=hide_ hv0
 have ht:=hide_ ht0
 have hX:=Ext.refl w
 clear hv0 ht0
 go_enter Tryz.func21,Tryz.ntmps21
 go_wp2_with ((first | ((with_reducible refine at_alloc ?_);refine w_allocN Tryz.stRound rfl rfl ?_;intro g2 w2 hg20 hx f2;have hg2:=hide_ (Nat.le_trans hX.size hg20);clear hg20;replace hX:=hX.trans hx;clear hx) | ((with_reducible refine at_sbuild ?_);refine w_sbuild Tryz.stPrepS [.int .i64 0, .int .i64 (-1)] rfl rfl rfl (by intro x hx;simp at hx;subst hx;exact ⟨by decide,rfl⟩) ?_) | (refine z3pz ?_;intro g3 w3 hg30 hx f3;have hg3:=hide_ (Nat.le_trans hX.size hg30);have h23:=hide_ (show g2≠g3 from by have:=f2.lt;omega);clear hg30;replace f2:=f2.ext hx;replace hX:=hX.trans hx;clear hx) | (refine z3ez ?_;refine w_astoreN Tryz.stPrep (us:=[.int .i64 0, .int .i64 (-1)]) _ _ rfl rfl rfl rfl rfl f3 rfl rfl (by intro u hu;simp at hu;rcases hu with rfl|rfl <;> rfl) ?_;intro w4 hm4 f4;replace f3:=f4;replace f2:=f2.mod hm4 h23.out;replace hX:=hm4.after hX (fun j e=>e ▸ hg3.out);clear hm4 f4) | fail) <;> (try refine z0z ?_))
 refine zmz ?_;intro wd hxd;have F3:=f3.ext hxd;have F2:=f2.ext hxd
 refine Ph.fresh 6 [0,4,5] [1,2,3] (fun i=>([5,6,7,8,9,10]:List Nat).getD i 0) (fun i x=>x = ([v,undef,undef,undef, .agg #[.int .i64 0, .int .i64 (-1)], .agg #[.int .i64 0, .int .i64 (-1)]]:List Value).getD i undef) (NRK t) (by kernel_rfl) (by kernel_rfl) (by kernel_rfl) (by kernel_rfl) (by kernel_rfl) (by kernel_rfl) (by intro i hi;show _ < 12;revert i;decide) NRK.ext ?_ ?_ ?_
 ·intro i hi b w' hx hout hdep
  rcases (show i = 0∨i = 4∨i = 5 by simp at hi;omega) with rfl|rfl|rfl
  ·have e0:b.tmps.getD 0 undef = v:=hout 0 (by decide)
   exact z6tz
  ·have e3:b.tmps.getD 3 undef = .pointer (some ⟨g3,0,none⟩):=hout 3 (by decide)
   exact z7nz
  ·have e3:b.tmps.getD 3 undef = .pointer (some ⟨g3,0,none⟩):=hout 3 (by decide)
   exact z7nz
 ·intro i hi b w' hx hout hdep
  rcases (show i = 1∨i = 2∨i = 3 by simp at hi;omega) with rfl|rfl|rfl
  ·have e5:b.tmps.getD 5 undef = v:=hdep 0 (by decide) (by kernel_rfl)
   refine wpOp_call 39 #[v] 6 rfl rfl rfl rfl (fun _ _=>rfl) (by simp only [List.map_toArray,List.map_cons,List.map_nil,Act.eval,e5]) ?_
   refine (TNew_any (hv.out.ext (hX.trans (hxd.trans hx))) ht.out).mono ?_
   rintro e w2 ⟨q,rfl,hT,hx2⟩
   exact ⟨_,rfl,_,_,rfl,⟨q,rfl,hT⟩,hx2,fun k hk=>hk⟩
  ·refine zgz ?_
   refine w_mkmap rfl rfl ?_
   intro g w2 hg hx2 o2
   exact ⟨_,fun k=>k = g,rfl,⟨g,rfl,o2,rfl⟩,hx2,fun k hk=>by subst hk;exact ⟨hg,o2.lt⟩⟩
  ·refine zgz ?_
   refine w_mkmap rfl rfl ?_
   intro g w2 hg hx2 o2
   exact ⟨_,fun k=>k = g,rfl,⟨g,rfl,o2,rfl⟩,hx2,fun k hk=>by subst hk;exact ⟨hg,o2.lt⟩⟩
 intro wE x B hxE hval hmk hsep
 obtain ⟨⟨q,eq6,hTq⟩,hnq⟩:=hmk 1 (by decide)
 obtain ⟨⟨gp,eq7,ogp,hBp⟩,hnp⟩:=hmk 2 (by decide)
 obtain ⟨⟨gs,eq8,ogs,hBs⟩,hns⟩:=hmk 3 (by decide)
 have d12:=hsep 2 (by decide) 1 (by decide) (by decide) gp hBp
 have d13:=hsep 3 (by decide) 1 (by decide) (by decide) gs hBs
 have d23:gp≠gs:=fun e=>hsep 2 (by decide) 3 (by decide) (by decide) gp hBp (e ▸ hBs)
 have bgp:=hnp gp hBp;have bgs:=hns gs hBs
 have ex0:x 0 = v:=hval 0 (by decide);have ex4:x 4 = .agg #[.int .i64 0, .int .i64 (-1)]:=hval 4 (by decide);have ex5:x 5 = .agg #[.int .i64 0, .int .i64 (-1)]:=hval 5 (by decide)
 simp only [List.cons_append,List.nil_append,List.foldl_cons,List.foldl_nil,eq6,eq7,eq8,ex0,ex4,ex5,List.getD_cons_zero,List.getD_cons_succ,Act.put,List.setIfInBounds_toArray,List.set_cons_zero,List.set_cons_succ]
 clear hval hmk hsep eq6 eq7 eq8 ex0 ex4 ex5 hBp hBs
 refine Ph.gate 6 1 (by kernel_rfl) ?_
 refine LinL.step (s:=(.val (.agg #[.int .i64 0, .int .i64 0, .int .i64 0, .pointer (some ⟨q,0,none⟩), .map (some gp), .map (some gs), .int .i64 0, .int .i64 (-1), .int .i64 0, .int .i64 (-1)]))) [(6,none),(7,none),(8,none),(9,none),(10,none)] rfl (by kernel_rfl) (op_runs rfl fun σ w' hx hg=>⟨_,runs_rbuild (ρ := σ.eval) (w:=w') (.tmp 6) (.tmp 7) (.tmp 8) (.tmp 9) (.tmp 10) rfl hg.1 hg.2.1 hg.2.2.1 hg.2.2.2.1 hg.2.2.2.2.1,rfl⟩) ?_
 intro wN hxN
 refine z2qz ?_
 refine z0z ?_
 refine zgz ?_
 refine w_astoreN Tryz.stRound (us:=[.int .i64 0, .int .i64 0, .int .i64 0, .pointer (some ⟨q,0,none⟩), .map (some gp), .map (some gs), .int .i64 0, .int .i64 (-1), .int .i64 0, .int .i64 (-1)]) _ _ rfl rfl rfl rfl rfl (F2.ext (hxE.trans hxN)) rfl rfl (by intro u hu;simp only [List.mem_cons,List.not_mem_nil,or_false] at hu;rcases hu with rfl|rfl|rfl|rfl|rfl|rfl|rfl|rfl|rfl|rfl <;> rfl) ?_;intro w9 hm9 f9
 show Ph Tryz.prog _ _ 8 _ _
 refine Ph.rest 8 0 (by kernel_rfl) ?_
 intro wM hxM
 refine zuz ?_
 go_wp2
 have hxx:=hX.trans (hxd.trans (hxE.trans hxN))
 have hg2l:=f2.lt
 have hzz:=hX.size
 have hzd:=hxd.size
 refine bodyPost_ret (ag_one Tryz.agRound rfl rfl (f9.ext hxM) rfl) rfl (Keep.intro ⟨_,rfl,⟨q,gp,gs,B 1,rfl, ?_, ?_, ?_,fun k hk => ?_,by omega,by omega,d12,d13,d23⟩,(hm9.after hxx fun j e=>e ▸ hg2.out).trans hxM⟩)
 ·obtain ⟨a1,a2,a3,a4,a5⟩:=hTq
  exact ⟨a1,a2,a3,a4,((a5.ext hxN).mod hm9 fun k hk e=>by have e':k = g2:=e;have:=(hnq k hk).1;omega).ext hxM⟩
 ·exact ownsMap_ext (ownsMap_mod (ownsMap_ext ogp hxN) hm9 fun e=>by have e':gp = g2:=e;omega) hxM
 ·exact ownsMap_ext (ownsMap_mod (ownsMap_ext ogs hxN) hm9 fun e=>by have e':gs = g2:=e;omega) hxM
 ·have h1:=hnq k hk
  have h2:=hxN.size
  have h3:=hm9.size
  have h4:=hxM.size
  exact ⟨by omega,by omega⟩
theorem nrR {w w0:World} {v:Value} {t:List Int} (hle:w0.heap.size≤w.heap.size) (h:Calls Tryz.prog 21 #[v] w fun e w' => ∃ u,e = .returned u∧NRd w.heap.size t u w'∧Ext w w'):Calls Tryz.prog 21 #[v] w fun e w' => ∃ v',e = .returned v'∧Ext w w'∧Sp.p (Sp.nround w0.heap.size t) v' w':=by
 refine h.mono ?_
 rintro e w' ⟨u,rfl,⟨q,gp,gs,X,h1,h2,h3,h4,h5,h6,h7,h8⟩,hx⟩
 exact ⟨u,rfl,hx,q,gp,gs,X,h1,h2,h3,h4,fun k hk=>⟨Nat.le_trans hle (h5 k hk).1,(h5 k hk).2⟩,Nat.le_trans hle h6,Nat.le_trans hle h7,h8⟩
section
variable {S:Nat→Nat} {w:World} {p q gp gs:Nat} {sv dv:Value} {c:CoD}
theorem CorW.decd (h:CorW S w p sv dv q gp gs c) {w1 w2:World} {u:Value} {x:Int} (hm1:Mod (fun k=>S k = 4) w w1) (hr:Row (grow (fun k=>S k = 4) w w1) w1 3 u (i64s (c.dec ++ [x]))) (hm2:Mod (fun k=>k = p) w1 w2) (hf:Fs w2 p ((coRow c sv dv q gp gs).set 4 u)) :
  ∃ S',CorW S' w2 p sv u q gp gs { c with dec:=c.dec ++ [x] }∧Stp 1 6 S S' w w2:=by
 have hb:=h.bnd
 have hbs:∀ k,(if k < w.heap.size then S k else if k < w1.heap.size then 4 else 0)≠0→k < w2.heap.size:=fun k hk=>by
  split at hk
  ·exact Nat.lt_of_lt_of_le (hb k hk) (Nat.le_trans hm1.size hm2.size)
  ·split at hk
   ·rename_i h1;exact Nat.lt_of_lt_of_le h1 hm2.size
   ·exact absurd rfl hk
 have hs:∀ k l,S k = l→l≠0→(if k < w.heap.size then S k else if k < w1.heap.size then 4 else 0) = l:=fun k l hk hl=>by
  rw [if_pos (hb k (by omega))];exact hk
 have hne4:∀ {k l:Nat},S k = l→l≠4→¬ S k = 4:=fun hk hl e=>hl (by omega)
 have hnep:∀ {k l:Nat},S k = l→l≠1→¬ k = p:=fun hk hl e=>hl (by rw [← hk,e];exact h.lab.1)
 refine ⟨fun k=>if k < w.heap.size then S k else if k < w1.heap.size then 4 else 0, ?_,(hm1.mono (G:=fun k=>1≤S k∧S k≤6) fun k _ e=>by show 1≤S k∧S k≤6;rw [e];omega).trans hm2 (fun k _ e=>by have e':k = p:=e;show 1≤S k∧S k≤6;rw [e',h.lab.1];omega),fun k hk=>if_pos hk,hbs⟩
 refine ⟨hf,⟨hs _ _ h.lab.1 (by omega),hs _ _ h.lab.2.1 (by omega),hs _ _ h.lab.2.2 (by omega)⟩,ints_mod (ints_mod h.stk hm1 fun k hk=>hne4 (h.sto k hk) (by omega)) hm2 fun k hk=>hnep (h.sto k hk) (by omega),fun k hk=>hs _ _ (h.sto k hk) (by omega), ?_, ?_, ?_, ?_,hbs,h.lft,h.me⟩
 ·refine (hr.mod hm2 fun k hk e => ?_).mono fun k hk => ?_
  ·have e':k = p:=e
   rcases hk with hk | hk
   ·exact hnep hk (by omega) e'
   ·have:=hb p (by rw [h.lab.1];omega);omega
  ·rcases hk with hk | hk
   ·exact hs k 4 hk (by omega)
   ·rw [if_neg (by omega),if_pos hk.2]
 ·obtain ⟨a,b,D,m,ht⟩:=h.tal
  exact ⟨a,b,D,m,((ht.mod hm1 fun k hk=>hne4 hk (by omega)).mod hm2 fun k hk=>hnep hk (by omega)).mono fun k hk=>hs _ _ hk (by omega)⟩
 ·obtain ⟨n,D,h1,h2,h3⟩:=h.prp
  exact ⟨n,D,h1,ownsMap_mod (ownsMap_mod h2 hm1 (hne4 h.lab.2.1 (by omega))) hm2 (hnep h.lab.2.1 (by omega)),h3⟩
 ·obtain ⟨n,D,h1,h2,h3⟩:=h.sad
  exact ⟨n,D,h1,ownsMap_mod (ownsMap_mod h2 hm1 (hne4 h.lab.2.2 (by omega))) hm2 (hnep h.lab.2.2 (by omega)),h3⟩
theorem CorW.fresh (h:CorW S w p sv dv q gp gs c) {w1 w2:World} {q2 gp2 gs2:Nat} {X:Nat→Prop} (hx:Ext w w1) (hm:Mod (fun k=>k = p) w1 w2) (hf:Fs w2 p (coRow c.rest sv dv q2 gp2 gs2)) (n1:Tal X w1 q2 c.t T0 0) (n2:w1.ownsMap Tryz.prog 3 tok gp2 0 (.map [])) (n3:w1.ownsMap Tryz.prog 3 tok gs2 0 (.map []))
  (n4:∀ k,X k→w.heap.size≤k∧k < w1.heap.size) (n5:w.heap.size≤gp2) (n6:w.heap.size≤gs2) (n7:¬ X gp2) (n8:¬ X gs2) (n9:gp2≠gs2):∃ S',CorW S' w2 p sv dv q2 gp2 gs2 c.rest∧Stp 1 6 S S' w w2:=by
 have hb:=h.bnd
 have hpl:p < w.heap.size:=hb p (by rw [h.lab.1];omega)
 have hnp:∀ k,w.heap.size≤k→¬ k = p:=fun k hk e=>by omega
 have hgl:gp2 < w1.heap.size∧gs2 < w1.heap.size:=⟨n2.lt,n3.lt⟩
 have hbs:∀ k,(if k < w.heap.size then S k else if k = gp2 then 2 else if k = gs2 then 3 else if k < w1.heap.size then 5 else 0)≠0→k < w2.heap.size:=fun k hk=>by
  have h1:=hm.size
  have h2:=hx.size
  split at hk
  ·have:=hb k hk;omega
  ·split at hk
   ·omega
   ·split at hk
    ·omega
    ·split at hk
     ·omega
     ·exact absurd rfl hk
 have hs:∀ k l,S k = l→l≠0→(if k < w.heap.size then S k else if k = gp2 then 2 else if k = gs2 then 3 else if k < w1.heap.size then 5 else 0) = l:=fun k l hk hl=>by
  rw [if_pos (hb k (by omega))];exact hk
 have hnep:∀ {k l:Nat},S k = l→l≠1→¬ k = p:=fun hk hl e=>hl (by rw [← hk,e];exact h.lab.1)
 refine ⟨fun k=>if k < w.heap.size then S k else if k = gp2 then 2 else if k = gs2 then 3 else if k < w1.heap.size then 5 else 0, ?_,(hx.mod (fun k=>1≤S k∧S k≤6)).trans hm (fun k _ e=>by have e':k = p:=e;show 1≤S k∧S k≤6;rw [e',h.lab.1];omega),fun k hk=>if_pos hk,hbs⟩
 refine ⟨hf,⟨hs _ _ h.lab.1 (by omega),by rw [if_neg (by omega),if_pos rfl],by rw [if_neg (by omega),if_neg (Ne.symm n9),if_pos rfl]⟩,ints_mod (h.stk.ext hx) hm fun k hk=>hnep (h.sto k hk) (by omega),fun k hk=>hs _ _ (h.sto k hk) (by omega), ?_, ?_, ?_, ?_,hbs,⟨Int.le_refl _,by show (0:Int)≤1000000;omega⟩,h.me⟩
 ·exact ((h.dec.ext hx).mod hm fun k hk=>hnep hk (by omega)).mono fun k hk=>hs _ _ hk (by omega)
 ·obtain ⟨a,b,D,m,ht⟩:=n1.tight
  refine ⟨a,b,D,m,(ht.mod hm fun k hk=>hnp k (n4 k hk).1).mono fun k hk => ?_⟩
  have:=n4 k hk
  rw [if_neg (by omega),if_neg (show ¬ k = gp2 from fun e=>n7 (e ▸ hk)),if_neg (show ¬ k = gs2 from fun e=>n8 (e ▸ hk)),if_pos this.2]
 ·exact ⟨0,_,by omega,ownsMap_mod n2 hm (hnp gp2 n5),PrM.nil⟩
 ·exact ⟨0,_,by omega,ownsMap_mod n3 hm (hnp gs2 n6),InM.nil,fun i hi=>absurd rfl hi⟩
end
def JD (S:Nat→Nat) (w:World) (p:Nat) (row:List Value) (dv:Value) (l:List Int) (x:Int) (m:Nat) (y:Value) (w':World):Prop :=
 match m with
 | 0=>Ext w w'
 | 1=>Ext w w'∧Sl w' y (i64s [x])
 | 2=>Mod (fun k=>S k = 4) w w'∧Row (grow (fun k=>S k = 4) w w') w' 3 y (i64s (l ++ [x]))
 | _ => ∃ w1 u,Mod (fun k=>S k = 4) w w1∧Row (grow (fun k=>S k = 4) w w1) w1 3 u (i64s (l ++ [x]))∧Mod (fun k=>k = p) w1 w'∧Fs w' p (row.set 4 u)
theorem JD.ext {S:Nat→Nat} {w:World} {p:Nat} {row:List Value} {dv:Value} {l:List Int} {x:Int} {m:Nat} {y:Value} {w':World} (h:JD S w p row dv l x m y w') {k:Nat} (hm:m≤k) (hk:k≤1:=by omega):Ext w w':=by
 rcases (show m = 0∨m = 1 by omega) with rfl|rfl
 ·exact h
 ·exact h.1
theorem JD.tb {S:Nat→Nat} {w:World} {tb p q gp gs:Nat} {kv ov sv dv:Value} {kn:List Int} {c:CoD} {row:List Value} {dv':Value} {l:List Int} {x:Int} {m:Nat} {y:Value} {w':World} (hT:TrnW S w tb p kv ov sv dv q gp gs kn c) (h:JD S w p row dv' l x m y w'):Fs w' tb [.pointer (some ⟨p,0,none⟩),kv,ov]:=by
 have n4:¬ S tb = 4:=fun e=>by rw [hT.ltb] at e;omega
 have np:¬ tb = p:=fun e=>by have:=hT.ltb;rw [e,hT.cor.lab.1] at this;omega
 match m,h with
 | 0,h=>exact hT.turn.ext h
 | 1,h=>exact hT.turn.ext h.1
 | 2,h=>exact hT.turn.mod h.1 n4
 | _ + 3,⟨w1,u,h1,_,h2,_⟩=>exact (hT.turn.mod h1 n4).mod h2 np
theorem i64s_app (l m:List Int):i64s (l ++ m) = i64s l ++ i64s m:=List.map_append
theorem decide_turn {S0:Nat→Nat} {w:World} {tb p q gp gs:Nat} {kv ov0 sv dv:Value} {kn:List Int} {c:CoD} (h:TrnW S0 w tb p kv ov0 sv dv q gp gs kn c) (hlen0:(c.out.length + 1) * 128≤140737488355328) (hdl0:(c.dec.length + 1) * 8≤140737488355328) {r:Option CoD} (hr0:c.agreed.map c.conclude = r) :
  Calls Tryz.prog 42 #[.pointer (some ⟨tb,0,none⟩)] w fun e w'=>e = .returned (.bool r.isSome)∧∃ S',Trn S' w' tb p kv kn (r.getD c)∧Stp 1 8 S0 S' w w':=by
 refine z2rz ?_
 have hT:=hide_ h
 have hlen:=hide_ hlen0
 have hX:=Ext.refl w
 unfold CoD.agreed at hr0
 cases hc:c.T.commOf c.t with
 | some x =>
  obtain ⟨d,hd0⟩:∃ d,c.send (fil c ⟨6,0,0,0,x,0⟩) = d:=⟨_,rfl⟩
  have hd:=hide_ hd0
  have hcm:=hide_ hc
  have hfin:=hide_ (show c.conclude x = ({ d with dec:=d.dec ++ [x] }:CoD).rest from by subst hd0;rfl)
  have hdl:=hide_ (show (d.dec.length + [x].length) * 8≤140737488355328 from by subst hd0;exact hdl0)
  rw [hc] at hr0
  obtain rfl:some (c.conclude x) = r:=hr0
  clear h hlen0 hdl0 hc hd0
  go_enter Tryz.func42,Tryz.ntmps42
  go_wp2_with ((first | (go_at_call 58;refine (TComm_any (hT.out.ext hX).cor.tal (by omega) hcm.out).mono ?_;rintro e w2 ⟨rfl,hx⟩;simp only [Option.getD_some,Option.isSome_some];replace hX:=hX.trans hx;clear hx) | (refine z3uz ?_;simp only [List.getElem_toArray,List.getElem_cons_succ,List.getElem_cons_zero]) | refine z4z ?_ | refine z38z ?_ | refine ziz ?_ | (refine z4rz ?_;refine w_mbuild (mRow (⟨6,0,0,0,x,0⟩:MsV).msg (.slice none 0 0)) rfl rfl rfl (by intro p hp;simp at hp;rcases hp with rfl|rfl <;> exact ⟨by decide,rfl⟩) ?_) | (go_at_call 51;refine (send_turn (m0:=⟨6,0,0,0,x,0⟩) (hT.out.ext hX) hlen.out).mono ?_;rintro e w1 ⟨rfl,S,ov,hT1,hs1⟩;rw [hd.out] at hT1;have hS1:=hide_ ((Stp.ofExt (lo:=1) (hi:=8) hX hT.out.bnd).trans hs1);clear hs1 hX) | fail) <;> (try refine z0z ?_))
  refine wp_region_chain [0,1,2,3,4,5,6,7,8,9,10,11,14,15] [12,13,16] [16] (fun i=>([33,34,35,36,37,38,39,40,41,42,43,44,45,46,47,48,33]:List Nat).getD i 0) (fun i y=>y = ([(.pointer (some ⟨tb,0,none⟩)),(.pointer (some ⟨tb,0,none⟩)),(.pointer (some ⟨tb,0,none⟩)),(.pointer (some ⟨p,0,none⟩)),(.pointer (some ⟨tb,0,none⟩)),(.pointer (some ⟨tb,0,none⟩)),(.pointer (some ⟨tb,0,none⟩)),(.pointer (some ⟨p,0,none⟩)),(.pointer (some ⟨p,0,none⟩)),(.pointer (some ⟨p,4,none⟩)),(dv),(.int .i64 x),undef,undef,(.pointer (some ⟨p,0,none⟩)),(.pointer (some ⟨p,4,none⟩)),undef]:List Value).getD i undef) (JD S w1 p (coRow d sv dv q gp gs) dv d.dec x) (by kernel_rfl) (by kernel_rfl) (by kernel_rfl) (by decide) (by kernel_rfl) (by decide) (by decide) (by decide) (by intro i hi;show _ < 63;revert i;decide) (by kernel_rfl) (fun w1 h=>h) ?_ ?_ ?_
  ·intro i hi m xc b w' hJ hlat hpre hout hdep
   rcases (show i = 0∨i = 1∨i = 2∨i = 3∨i = 4∨i = 5∨i = 6∨i = 7∨i = 8∨i = 9∨i = 10∨i = 11∨i = 14∨i = 15 by simp at hi;omega) with rfl|rfl|rfl|rfl|rfl|rfl|rfl|rfl|rfl|rfl|rfl|rfl|rfl|rfl
   ·have e0:b.tmps.getD 0 undef = .pointer (some ⟨tb,0,none⟩):=hout 0 (by decide)
    exact z6oz
   ·have e33:b.tmps.getD 33 undef = .pointer (some ⟨tb,0,none⟩):=hdep 0 (by decide) (by kernel_rfl)
    refine zgz ?_
    refine w_nilC _ rfl rfl e33 ?_
    exact z2gz
   ·have e34:b.tmps.getD 34 undef = .pointer (some ⟨tb,0,none⟩):=hdep 1 (by decide) (by kernel_rfl)
    exact z7oz
   ·have e35:b.tmps.getD 35 undef = .pointer (some ⟨tb,0,none⟩):=hdep 2 (by decide) (by kernel_rfl)
    refine zgz ?_
    refine w_fload (.tmp 35) rfl rfl e35 (JD.tb hT1 hJ) rfl (agg_of (by kernel_rfl)) ?_
    exact z2gz
   ·have e0:b.tmps.getD 0 undef = .pointer (some ⟨tb,0,none⟩):=hout 0 (by decide)
    exact z6oz
   ·have e37:b.tmps.getD 37 undef = .pointer (some ⟨tb,0,none⟩):=hdep 4 (by decide) (by kernel_rfl)
    refine zgz ?_
    refine w_nilC _ rfl rfl e37 ?_
    exact z2gz
   ·have e38:b.tmps.getD 38 undef = .pointer (some ⟨tb,0,none⟩):=hdep 5 (by decide) (by kernel_rfl)
    exact z7pz
   ·have e39:b.tmps.getD 39 undef = .pointer (some ⟨tb,0,none⟩):=hdep 6 (by decide) (by kernel_rfl)
    refine zgz ?_
    refine w_fload (.tmp 39) rfl rfl e39 (JD.tb hT1 hJ) rfl (agg_of (by kernel_rfl)) ?_
    exact z2gz
   ·have e40:b.tmps.getD 40 undef = .pointer (some ⟨p,0,none⟩):=hdep 7 (by decide) (by kernel_rfl)
    refine zgz ?_
    refine w_nilC _ rfl rfl e40 ?_
    exact z2gz
   ·have e41:b.tmps.getD 41 undef = .pointer (some ⟨p,0,none⟩):=hdep 8 (by decide) (by kernel_rfl)
    exact z7qz
   ·have e42:b.tmps.getD 42 undef = .pointer (some ⟨p,4,none⟩):=hdep 9 (by decide) (by kernel_rfl)
    have hx:Ext w1 w':=JD.ext hJ (hlat 1 (by decide) (by kernel_rfl))
    refine zgz ?_
    refine w_fload (.tmp 42) rfl rfl e42 (hT1.cor.obj.ext hx) rfl (agg_of (by kernel_rfl)) ?_
    exact z2gz
   ·have e3:b.tmps.getD 3 undef = .int .i64 x:=hout 3 (by decide)
    refine zgz ?_
    refine w_mvC (.tmp 3) rfl (.inl rfl) e3 ?_
    exact z2gz
   ·have e36:b.tmps.getD 36 undef = .pointer (some ⟨p,0,none⟩):=hdep 3 (by decide) (by kernel_rfl)
    refine zgz ?_
    refine w_nilC _ rfl rfl e36 ?_
    exact z2gz
   ·have e47:b.tmps.getD 47 undef = .pointer (some ⟨p,0,none⟩):=hdep 14 (by decide) (by kernel_rfl)
    exact z7rz
  ·intro m hm xc b w' hJ hpr hout hdep
   rcases (show m = 0∨m = 1∨m = 2 by simp at hm;omega) with rfl|rfl|rfl
   ·have e44:b.tmps.getD 44 undef = .int .i64 x:=hdep 11 (by decide) (by kernel_rfl)
    show wpOp _ _ _ 12 _ _ _
    have hx:Ext w1 w':=hJ
    refine z7sz ?_
    intro v2 w2 hx2 o2
    exact ⟨_,rfl,hx.trans hx2,Sl.of_own o2⟩
   ·have e43:b.tmps.getD 43 undef = dv:=hdep 10 (by decide) (by kernel_rfl)
    have e45:b.tmps.getD 45 undef = xc:=hpr (by omega) rfl
    show wpOp _ _ _ 13 _ _ _
    obtain ⟨hx,hs⟩:=hJ
    refine z7iz ?_
    intro v2 w2 hm2 hr2 _
    exact z3wz
   ·have e48:b.tmps.getD 48 undef = .pointer (some ⟨p,4,none⟩):=hdep 15 (by decide) (by kernel_rfl)
    have e46:b.tmps.getD 46 undef = xc:=hpr (by omega) rfl
    show wpOp _ _ _ 16 _ _ _
    obtain ⟨hm1,hr1⟩:=hJ
    obtain ⟨A,cc,hxv,_⟩:=hr1.sl
    refine zgz ?_
    refine z51z ?_
    intro w2 hm2 f2
    exact ⟨undef,rfl,w',xc,hm1,hr1,hm2,f2⟩
  intro w7 x0 xf hJ hv _
  simp only [List.cons_append,List.nil_append,List.foldl_cons,List.foldl_nil]
  generalize xf 0 = x100
  generalize xf 1 = x101
  generalize xf 2 = x102
  generalize xf 3 = x103
  generalize xf 4 = x104
  generalize xf 5 = x105
  generalize xf 6 = x106
  generalize xf 7 = x107
  generalize xf 8 = x108
  generalize xf 9 = x109
  generalize xf 10 = x110
  generalize xf 11 = x111
  generalize xf 12 = x112
  generalize xf 13 = x113
  generalize xf 14 = x114
  generalize xf 15 = x115
  generalize xf 16 = x116
  refine z2az ?_
  clear hv
  obtain ⟨w3,dv2,j1,j2,j3,j4⟩:=hJ
  obtain ⟨S2,hC2,hs2⟩:=hT1.cor.decd j1 j2 j3 j4
  have hT2:=hide_ (hT1.core hs2 hC2 rfl)
  have hS2:=hide_ (hS1.out.trans (hs2.wide (by omega) (by omega)))
  obtain ⟨e,he0⟩:∃ e,({ d with dec:=d.dec ++ [x] }:CoD) = e:=⟨_,rfl⟩
  rw [he0] at hT2
  have hest:=hide_ (show StOk e.t from hT2.out.cor.st)
  have hfin2:=hide_ (show c.conclude x = e.rest from by rw [hfin.out,he0])
  clear hT1 hC2 hs2 j1 j2 j3 j4 he0 hfin
  go_wp2
  refine zmz ?_;intro wd hxd;have HT:=hT2.out.ext hxd;have FT:=HT.turn;have F0:=HT.cor.obj;have ST:=HT.cor.stk
  refine z5cz ?_
  intro wN hxN
  refine z6sz ?_
  intro q60 hq60
  refine z0z ?_
  obtain ⟨q2,gp2,gs2,X2,rfl,hn1,hn2,hn3,hn4,hn5,hn6,hn7,hn8,hn9⟩:=hq60
  refine zgz ?_
  refine w_storeB Tryz.stRound (pre:=[.int .i64 (e.me:Nat),sv, .int .i64 e.base, .int .i64 e.most,dv2, .int .i64 e.tip]) (old:=[.int .i64 e.view, .int .i64 e.step, .int .i64 e.left, .pointer (some ⟨q,0,none⟩), .map (some gp), .map (some gs), .int .i64 e.lv, .int .i64 e.lw, .int .i64 e.vv, .int .i64 e.vw]) (us:=[.int .i64 0, .int .i64 0, .int .i64 0, .pointer (some ⟨q2,0,none⟩), .map (some gp2), .map (some gs2), .int .i64 0, .int .i64 (-1), .int .i64 0, .int .i64 (-1)]) (post:=[]) _ _ rfl rfl rfl rfl rfl (F0.ext hxN) rfl rfl rfl (by intro u hu;simp only [List.mem_cons,List.not_mem_nil,or_false] at hu;rcases hu with rfl|rfl|rfl|rfl|rfl|rfl|rfl|rfl|rfl|rfl <;> rfl) ?_;intro w9 hm9 f9
  show Ph Tryz.prog _ _ 15 _ _
  refine Ph.rest 15 0 (by kernel_rfl) ?_
  intro wM hxM
  refine zuz ?_
  obtain ⟨S9,hC9,hs9⟩:=hT2.out.cor.fresh (hxd.trans hxN) hm9 f9 hn1 hn2 hn3 hn4 hn5 hn6 hn7 hn8 hn9
  have hT9:=(hT2.out.core hs9 hC9 rfl).ext hxM
  have hS9:=hS2.out.trans ((hs9.wide (by omega) (by omega)).trans (Stp.ofExt hxM hC9.bnd))
  go_wp2
  go_ret
  exact Keep.intro ⟨rfl,S9,⟨_,_,_,_,_,_,by rw [Option.getD_some,hfin2.out];exact hT9⟩,hS9⟩
 | none =>
  rw [hc] at hr0
  cases hs:CoD.saidOf c.t c.said with
  | some x =>
   obtain ⟨d,hd0⟩:∃ d,c.send (fil c ⟨6,0,0,0,x,0⟩) = d:=⟨_,rfl⟩
   have hd:=hide_ hd0
   have hcm:=hide_ hc
   have hsd:=hide_ hs
   have hfin:=hide_ (show c.conclude x = ({ d with dec:=d.dec ++ [x] }:CoD).rest from by subst hd0;rfl)
   have hdl:=hide_ (show (d.dec.length + [x].length) * 8≤140737488355328 from by subst hd0;exact hdl0)
   rw [hs] at hr0
   obtain rfl:some (c.conclude x) = r:=hr0
   clear h hlen0 hdl0 hc hd0 hs
   go_enter Tryz.func42,Tryz.ntmps42
   go_wp2_with ((first | (go_at_call 58;refine (TComm_any (hT.out.ext hX).cor.tal (by omega) hcm.out).mono ?_;rintro e w2 ⟨rfl,hx⟩;simp only [Option.getD_none,Option.isSome_none];replace hX:=hX.trans hx;clear hx) | (go_at_call 59;refine (heard_core (hT.out.ext hX).cor hsd.out).mono ?_;rintro e w3 ⟨rfl,hx⟩;simp only [Option.getD_some,Option.isSome_some];replace hX:=hX.trans hx;clear hx) | (refine z3uz ?_;simp only [List.getElem_toArray,List.getElem_cons_succ,List.getElem_cons_zero]) | refine z4z ?_ | refine z38z ?_ | refine ziz ?_ | (refine z4rz ?_;refine w_mbuild (mRow (⟨6,0,0,0,x,0⟩:MsV).msg (.slice none 0 0)) rfl rfl rfl (by intro p hp;simp at hp;rcases hp with rfl|rfl <;> exact ⟨by decide,rfl⟩) ?_) | (go_at_call 51;refine (send_turn (m0:=⟨6,0,0,0,x,0⟩) (hT.out.ext hX) hlen.out).mono ?_;rintro e w1 ⟨rfl,S,ov,hT1,hs1⟩;rw [hd.out] at hT1;have hS1:=hide_ ((Stp.ofExt (lo:=1) (hi:=8) hX hT.out.bnd).trans hs1);clear hs1 hX) | fail) <;> (try refine z0z ?_))
   refine wp_region_chain [0,1,2,3,4,5,6,7,8,9,10,11,14,15] [12,13,16] [16] (fun i=>([33,34,35,36,37,38,39,40,41,42,43,44,45,46,47,48,33]:List Nat).getD i 0) (fun i y=>y = ([(.pointer (some ⟨tb,0,none⟩)),(.pointer (some ⟨tb,0,none⟩)),(.pointer (some ⟨tb,0,none⟩)),(.pointer (some ⟨p,0,none⟩)),(.pointer (some ⟨tb,0,none⟩)),(.pointer (some ⟨tb,0,none⟩)),(.pointer (some ⟨tb,0,none⟩)),(.pointer (some ⟨p,0,none⟩)),(.pointer (some ⟨p,0,none⟩)),(.pointer (some ⟨p,4,none⟩)),(dv),(.int .i64 x),undef,undef,(.pointer (some ⟨p,0,none⟩)),(.pointer (some ⟨p,4,none⟩)),undef]:List Value).getD i undef) (JD S w1 p (coRow d sv dv q gp gs) dv d.dec x) (by kernel_rfl) (by kernel_rfl) (by kernel_rfl) (by decide) (by kernel_rfl) (by decide) (by decide) (by decide) (by intro i hi;show _ < 63;revert i;decide) (by kernel_rfl) (fun w1 h=>h) ?_ ?_ ?_
   ·intro i hi m xc b w' hJ hlat hpre hout hdep
    rcases (show i = 0∨i = 1∨i = 2∨i = 3∨i = 4∨i = 5∨i = 6∨i = 7∨i = 8∨i = 9∨i = 10∨i = 11∨i = 14∨i = 15 by simp at hi;omega) with rfl|rfl|rfl|rfl|rfl|rfl|rfl|rfl|rfl|rfl|rfl|rfl|rfl|rfl
    ·have e0:b.tmps.getD 0 undef = .pointer (some ⟨tb,0,none⟩):=hout 0 (by decide)
     exact z6oz
    ·have e33:b.tmps.getD 33 undef = .pointer (some ⟨tb,0,none⟩):=hdep 0 (by decide) (by kernel_rfl)
     refine zgz ?_
     refine w_nilC _ rfl rfl e33 ?_
     exact z2gz
    ·have e34:b.tmps.getD 34 undef = .pointer (some ⟨tb,0,none⟩):=hdep 1 (by decide) (by kernel_rfl)
     exact z7oz
    ·have e35:b.tmps.getD 35 undef = .pointer (some ⟨tb,0,none⟩):=hdep 2 (by decide) (by kernel_rfl)
     refine zgz ?_
     refine w_fload (.tmp 35) rfl rfl e35 (JD.tb hT1 hJ) rfl (agg_of (by kernel_rfl)) ?_
     exact z2gz
    ·have e0:b.tmps.getD 0 undef = .pointer (some ⟨tb,0,none⟩):=hout 0 (by decide)
     exact z6oz
    ·have e37:b.tmps.getD 37 undef = .pointer (some ⟨tb,0,none⟩):=hdep 4 (by decide) (by kernel_rfl)
     refine zgz ?_
     refine w_nilC _ rfl rfl e37 ?_
     exact z2gz
    ·have e38:b.tmps.getD 38 undef = .pointer (some ⟨tb,0,none⟩):=hdep 5 (by decide) (by kernel_rfl)
     exact z7pz
    ·have e39:b.tmps.getD 39 undef = .pointer (some ⟨tb,0,none⟩):=hdep 6 (by decide) (by kernel_rfl)
     refine zgz ?_
     refine w_fload (.tmp 39) rfl rfl e39 (JD.tb hT1 hJ) rfl (agg_of (by kernel_rfl)) ?_
     exact z2gz
    ·have e40:b.tmps.getD 40 undef = .pointer (some ⟨p,0,none⟩):=hdep 7 (by decide) (by kernel_rfl)
     refine zgz ?_
     refine w_nilC _ rfl rfl e40 ?_
     exact z2gz
    ·have e41:b.tmps.getD 41 undef = .pointer (some ⟨p,0,none⟩):=hdep 8 (by decide) (by kernel_rfl)
     exact z7qz
    ·have e42:b.tmps.getD 42 undef = .pointer (some ⟨p,4,none⟩):=hdep 9 (by decide) (by kernel_rfl)
     have hx:Ext w1 w':=JD.ext hJ (hlat 1 (by decide) (by kernel_rfl))
     refine zgz ?_
     refine w_fload (.tmp 42) rfl rfl e42 (hT1.cor.obj.ext hx) rfl (agg_of (by kernel_rfl)) ?_
     exact z2gz
    ·have e3:b.tmps.getD 3 undef = .int .i64 x:=hout 3 (by decide)
     refine zgz ?_
     refine w_mvC (.tmp 3) rfl (.inl rfl) e3 ?_
     exact z2gz
    ·have e36:b.tmps.getD 36 undef = .pointer (some ⟨p,0,none⟩):=hdep 3 (by decide) (by kernel_rfl)
     refine zgz ?_
     refine w_nilC _ rfl rfl e36 ?_
     exact z2gz
    ·have e47:b.tmps.getD 47 undef = .pointer (some ⟨p,0,none⟩):=hdep 14 (by decide) (by kernel_rfl)
     exact z7rz
   ·intro m hm xc b w' hJ hpr hout hdep
    rcases (show m = 0∨m = 1∨m = 2 by simp at hm;omega) with rfl|rfl|rfl
    ·have e44:b.tmps.getD 44 undef = .int .i64 x:=hdep 11 (by decide) (by kernel_rfl)
     show wpOp _ _ _ 12 _ _ _
     have hx:Ext w1 w':=hJ
     refine z7sz ?_
     intro v2 w2 hx2 o2
     exact ⟨_,rfl,hx.trans hx2,Sl.of_own o2⟩
    ·have e43:b.tmps.getD 43 undef = dv:=hdep 10 (by decide) (by kernel_rfl)
     have e45:b.tmps.getD 45 undef = xc:=hpr (by omega) rfl
     show wpOp _ _ _ 13 _ _ _
     obtain ⟨hx,hs⟩:=hJ
     refine z7iz ?_
     intro v2 w2 hm2 hr2 _
     exact z3wz
    ·have e48:b.tmps.getD 48 undef = .pointer (some ⟨p,4,none⟩):=hdep 15 (by decide) (by kernel_rfl)
     have e46:b.tmps.getD 46 undef = xc:=hpr (by omega) rfl
     show wpOp _ _ _ 16 _ _ _
     obtain ⟨hm1,hr1⟩:=hJ
     obtain ⟨A,cc,hxv,_⟩:=hr1.sl
     refine zgz ?_
     refine z51z ?_
     intro w2 hm2 f2
     exact ⟨undef,rfl,w',xc,hm1,hr1,hm2,f2⟩
   intro w7 x0 xf hJ hv _
   simp only [List.cons_append,List.nil_append,List.foldl_cons,List.foldl_nil]
   generalize xf 0 = x100
   generalize xf 1 = x101
   generalize xf 2 = x102
   generalize xf 3 = x103
   generalize xf 4 = x104
   generalize xf 5 = x105
   generalize xf 6 = x106
   generalize xf 7 = x107
   generalize xf 8 = x108
   generalize xf 9 = x109
   generalize xf 10 = x110
   generalize xf 11 = x111
   generalize xf 12 = x112
   generalize xf 13 = x113
   generalize xf 14 = x114
   generalize xf 15 = x115
   generalize xf 16 = x116
   refine z2az ?_
   clear hv
   obtain ⟨w3,dv2,j1,j2,j3,j4⟩:=hJ
   obtain ⟨S2,hC2,hs2⟩:=hT1.cor.decd j1 j2 j3 j4
   have hT2:=hide_ (hT1.core hs2 hC2 rfl)
   have hS2:=hide_ (hS1.out.trans (hs2.wide (by omega) (by omega)))
   obtain ⟨e,he0⟩:∃ e,({ d with dec:=d.dec ++ [x] }:CoD) = e:=⟨_,rfl⟩
   rw [he0] at hT2
   have hest:=hide_ (show StOk e.t from hT2.out.cor.st)
   have hfin2:=hide_ (show c.conclude x = e.rest from by rw [hfin.out,he0])
   clear hT1 hC2 hs2 j1 j2 j3 j4 he0 hfin
   go_wp2
   refine zmz ?_;intro wd hxd;have HT:=hT2.out.ext hxd;have FT:=HT.turn;have F0:=HT.cor.obj;have ST:=HT.cor.stk
   refine z5cz ?_
   intro wN hxN
   refine z6sz ?_
   intro q60 hq60
   refine z0z ?_
   obtain ⟨q2,gp2,gs2,X2,rfl,hn1,hn2,hn3,hn4,hn5,hn6,hn7,hn8,hn9⟩:=hq60
   refine zgz ?_
   refine w_storeB Tryz.stRound (pre:=[.int .i64 (e.me:Nat),sv, .int .i64 e.base, .int .i64 e.most,dv2, .int .i64 e.tip]) (old:=[.int .i64 e.view, .int .i64 e.step, .int .i64 e.left, .pointer (some ⟨q,0,none⟩), .map (some gp), .map (some gs), .int .i64 e.lv, .int .i64 e.lw, .int .i64 e.vv, .int .i64 e.vw]) (us:=[.int .i64 0, .int .i64 0, .int .i64 0, .pointer (some ⟨q2,0,none⟩), .map (some gp2), .map (some gs2), .int .i64 0, .int .i64 (-1), .int .i64 0, .int .i64 (-1)]) (post:=[]) _ _ rfl rfl rfl rfl rfl (F0.ext hxN) rfl rfl rfl (by intro u hu;simp only [List.mem_cons,List.not_mem_nil,or_false] at hu;rcases hu with rfl|rfl|rfl|rfl|rfl|rfl|rfl|rfl|rfl|rfl <;> rfl) ?_;intro w9 hm9 f9
   show Ph Tryz.prog _ _ 15 _ _
   refine Ph.rest 15 0 (by kernel_rfl) ?_
   intro wM hxM
   refine zuz ?_
   obtain ⟨S9,hC9,hs9⟩:=hT2.out.cor.fresh (hxd.trans hxN) hm9 f9 hn1 hn2 hn3 hn4 hn5 hn6 hn7 hn8 hn9
   have hT9:=(hT2.out.core hs9 hC9 rfl).ext hxM
   have hS9:=hS2.out.trans ((hs9.wide (by omega) (by omega)).trans (Stp.ofExt hxM hC9.bnd))
   go_wp2
   go_ret
   exact Keep.intro ⟨rfl,S9,⟨_,_,_,_,_,_,by rw [Option.getD_some,hfin2.out];exact hT9⟩,hS9⟩
  | none =>
   have hcm:=hide_ hc
   have hsd:=hide_ hs
   rw [hs] at hr0
   obtain rfl:none = r:=hr0
   clear h hlen0 hdl0 hc hs
   go_enter Tryz.func42,Tryz.ntmps42
   go_wp2_with ((first | (go_at_call 58;refine (TComm_any (hT.out.ext hX).cor.tal (by omega) hcm.out).mono ?_;rintro e w2 ⟨rfl,hx⟩;simp only [Option.getD_none,Option.isSome_none];replace hX:=hX.trans hx;clear hx) | (go_at_call 59;refine (heard_core (hT.out.ext hX).cor hsd.out).mono ?_;rintro e w3 ⟨rfl,hx⟩;simp only [Option.getD_none,Option.isSome_none];replace hX:=hX.trans hx;clear hx) | (refine z3uz ?_;simp only [List.getElem_toArray,List.getElem_cons_succ,List.getElem_cons_zero]) | refine z4z ?_ | refine z38z ?_ | refine ziz ?_ | fail) <;> (try refine z0z ?_))
   go_ret
   exact Keep.intro ⟨rfl,S0,⟨_,_,_,_,_,_,hT.out.ext hX⟩,Stp.ofExt hX hT.out.bnd⟩
end Go.Proofs.YtdoeoncmhaihbaaGreat
