/- The weights of a set of nodes, as a sum: what is in two sets, in none, in a greater one. No condition. · The contracts of stake.Check, Total, Sum, Most, Some, Few. Condition: but for Check, stakes that can be. · The contract of stake.Sum; so of Most, Some and Few. Condition: stakes that can be. · The contracts of stake.Most, Some and Few. Condition: stakes that can be. · The contracts of the document's Check, Sum, Most, Some and Few. Condition: but for Check, stakes that can be. -/
import Derived.Test.YtdoeoncmhaihbaaGreatPk03
import Derived.Maps.OwnSet
import Derived.WalkKit
namespace Go.Proofs.YtdoeoncmhaihbaaGreat
set_option maxRecDepth 100000
def ws (t:List Int) (p:Nat→Bool):Nat→Int
 | 0=>0
 | n + 1=>ws t p n + if p n then t.getD n 0 else 0
def StOk (t:List Int):Prop:=1≤t.length∧t.length≤7∧∀ x∈t,1≤x∧x≤1000000
instance (t:List Int):Decidable (StOk t):=by unfold StOk;exact inferInstance
def chk (t:List Int):Nat:=if StOk t then 0 else 31
def inn (who:List Int) (i:Nat):Bool:=who.any fun x=>x == (i:Int)
def sumS (t who:List Int):Int:=ws t (inn who) t.length
def totS (t:List Int):Int:=ws t (fun _=>true) t.length
def most (t who:List Int):Bool:=decide (2 * totS t < 3 * sumS t who)
def some3 (t who:List Int):Bool:=decide (totS t < 3 * sumS t who)
def few (t who:List Int):Bool:=decide (3 * sumS t who < totS t)
theorem StOk.at {t:List Int} (h:StOk t) {i:Nat} (hi:i < t.length):1≤t[i]∧t[i]≤1000000:=h.2.2 _ (List.getElem_mem hi)
theorem getD_at (t:List Int) {i:Nat} (hi:i < t.length):t.getD i 0 = t[i]:=by simp [List.getD,List.getElem?_eq_getElem hi]
theorem StOk.nn {t:List Int} (h:StOk t) (i:Nat):0≤t.getD i 0∧t.getD i 0≤1000000:=by
 by_cases hi:i < t.length
 ·rw [getD_at t hi];have:=h.at hi;omega
 ·simp [List.getD,List.getElem?_eq_none (Nat.le_of_not_lt hi)]
theorem ws_le {t:List Int} (h:StOk t) (p:Nat→Bool):∀ n,0≤ws t p n∧ws t p n≤1000000 * (n:Int)
 | 0=>by simp [ws]
 | n + 1=>by
  have:=ws_le h p n
  have:=h.nn n
  rw [ws]
  split <;> omega
theorem ws_bd {t:List Int} (h:StOk t) (p:Nat→Bool) {n:Nat} (hn:n≤t.length):0≤ws t p n∧ws t p n≤7000000:=by
 have h1:=ws_le h p n
 have h2:=h.2.1
 omega
theorem ws_congr {t:List Int} {p q:Nat→Bool}:∀ n,(∀ i,i < n→p i = q i)→ws t p n = ws t q n
 | 0,_=>rfl
 | n + 1,h=>by rw [ws,ws,ws_congr n (fun i hi=>h i (by omega)),h n (by omega)]
theorem ws_mono {t:List Int} (ht:StOk t) {p q:Nat→Bool}:∀ n,(∀ i,i < n→p i = true→q i = true)→ws t p n≤ws t q n
 | 0,_=>by simp [ws]
 | n + 1,h=>by
  have h1:=ws_mono ht n (fun i hi=>h i (by omega))
  have h2:=ht.nn n
  have h3:=h n (by omega)
  rw [ws,ws]
  cases hp:p n <;> cases hq:q n <;> simp_all <;> omega
theorem ws_two (t:List Int) (p q:Nat→Bool):∀ n,ws t p n + ws t q n = ws t (fun i=>p i && q i) n + ws t (fun i=>p i || q i) n
 | 0=>by simp [ws]
 | n + 1=>by
  have h1:=ws_two t p q n
  rw [ws,ws,ws,ws]
  cases hp:p n <;> cases hq:q n <;> simp <;> omega
theorem ws_more (t:List Int) (p:Nat→Bool) (j:Nat) (hj:p j = false):∀ n,j < n→ws t (fun i=>p i || j == i) n = ws t p n + t.getD j 0
 | 0,h=>by omega
 | n + 1,h=>by
  rw [ws,ws]
  by_cases hn:j = n
  ·subst hn
   rw [hj,ws_congr (q:=p) j (fun i hi=>by simp;omega)]
   simp
  ·rw [ws_more t p j hj n (by omega)]
   have hb:(j == n) = false:=by simpa using hn
   rw [hb,Bool.or_false];split <;> omega
theorem inn_nil (i:Nat):inn [] i = false:=rfl
theorem inn_snoc (l:List Int) (x:Int) (i:Nat):inn (l ++ [x]) i = (inn l i || x == (i:Int)):=by simp [inn]
theorem inn_step (l:List Int) (i:Nat) {k:Nat} (hk:k < l.length):inn (l.take (k + 1)) i = (inn (l.take k) i || l[k] == (i:Int)):=by
 rw [List.take_succ_eq_append_getElem hk,inn_snoc]
theorem cast_beq (a b:Nat):(((a:Int)) == (b:Int)) = (a == b):=by
 rw [Bool.eq_iff_iff,beq_iff_eq,beq_iff_eq];omega
theorem sum_out (t who:List Int) {k:Nat} (hk:k < who.length) (hx:who[k] < 0∨(t.length:Int)≤who[k]):ws t (inn (who.take (k + 1))) t.length = ws t (inn (who.take k)) t.length :=
 ws_congr _ fun i hi=>by
  rw [inn_step who i hk]
  have:¬ who[k] = (i:Int):=by omega
  simp [this]
theorem sum_old (t who:List Int) {k:Nat} (hk:k < who.length) (j:Nat) (hj:who[k] = (j:Int)) (ho:inn (who.take k) j = true):ws t (inn (who.take (k + 1))) t.length = ws t (inn (who.take k)) t.length :=
 ws_congr _ fun i hi=>by
  rw [inn_step who i hk,hj,cast_beq]
  by_cases h:j = i
  ·subst h;simp [ho]
  ·simp [h]
theorem sum_new (t who:List Int) {k:Nat} (hk:k < who.length) (j:Nat) (hj:who[k] = (j:Int)) (hlt:j < t.length) (ho:inn (who.take k) j = false):ws t (inn (who.take (k + 1))) t.length = ws t (inn (who.take k)) t.length + t[j]:=by
 rw [← getD_at t hlt, ← ws_more t _ j ho _ hlt]
 exact ws_congr _ fun i hi=>by rw [inn_step who i hk,hj,cast_beq]
theorem sumS_bd {t:List Int} (h:StOk t) (who:List Int):0≤sumS t who∧sumS t who≤7000000:=ws_bd h _ (Nat.le_refl _)
theorem totS_bd {t:List Int} (h:StOk t):0≤totS t∧totS t≤7000000:=ws_bd h _ (Nat.le_refl _)
theorem tot_pos {t:List Int} (h:StOk t):0 < totS t:=by
 have h1:=h.1
 have h2:=h.at (i:=t.length - 1) (by omega)
 have h3:=ws_le h (fun _=>true) (t.length - 1)
 unfold totS
 obtain ⟨m,hm⟩:∃ m,t.length = m + 1:=⟨t.length - 1,by omega⟩
 rw [hm,ws,if_pos rfl,getD_at t (by omega)]
 have h4:=h.at (i:=m) (by omega)
 have h5:=ws_le h (fun _=>true) m
 omega
def picks (p:Nat→Bool) (n:Nat):List Int:=((List.range n).filter p).map fun i:Nat=>(i:Int)
theorem picks_succ (p:Nat→Bool) (n:Nat):picks p (n + 1) = picks p n ++ if p n then [(n:Int)] else []:=by
 unfold picks
 rw [List.range_succ,List.filter_append,List.map_append]
 congr 1
 cases hp:p n <;> simp [hp]
theorem picks_len (p:Nat→Bool) (n:Nat):(picks p n).length≤n:=by
 unfold picks
 rw [List.length_map]
 exact Nat.le_trans (List.length_filter_le _ _) (by simp)
theorem picks_wf (p:Nat→Bool) (n:Nat):∀ x∈picks p n,0≤x∧x < n:=by
 intro x hx
 simp only [picks,List.mem_map,List.mem_filter,List.mem_range] at hx
 obtain ⟨i,⟨h1,_⟩,rfl⟩:=hx
 omega
theorem inn_picks (p:Nat→Bool) (n:Nat) {i:Nat} (hi:i < n):inn (picks p n) i = p i:=by
 cases hp:p i
 ·unfold inn
  rw [List.any_eq_false]
  intro x hx
  simp only [picks,List.mem_map,List.mem_filter,List.mem_range] at hx
  obtain ⟨j,⟨h1,h2⟩,rfl⟩:=hx
  simp only [beq_iff_eq]
  intro he
  obtain rfl:j = i:=by omega
  rw [hp] at h2;cases h2
 ·unfold inn
  rw [List.any_eq_true]
  refine ⟨(i:Int), ?_,by simp⟩
  simp only [picks,List.mem_map,List.mem_filter,List.mem_range]
  exact ⟨i,⟨hi,hp⟩,rfl⟩
theorem sum_picks (t:List Int) (p:Nat→Bool):sumS t (picks p t.length) = ws t p t.length:=ws_congr _ fun _ hi=>inn_picks p _ hi
theorem two_meet {t:List Int} (h:StOk t) (a b:List Int) (ha:most t a = true) (hb:most t b = true) :
  some3 t (picks (fun i=>inn a i && inn b i) t.length) = true∧few t (picks (fun i=>inn a i && inn b i) t.length) = false:=by
 unfold most at ha hb
 unfold some3 few
 rw [sum_picks]
 have h1:=ws_two t (inn a) (inn b) t.length
 have h2:ws t (fun i=>inn a i || inn b i) t.length≤totS t:=ws_mono h _ fun _ _ _=>rfl
 unfold sumS at ha hb
 simp only [decide_eq_true_eq] at ha hb
 exact ⟨decide_eq_true (by omega),decide_eq_false (by omega)⟩
end Go.Proofs.YtdoeoncmhaihbaaGreat
namespace Go.Proofs.YtdoeoncmhaihbaaGreat
set_option maxRecDepth 100000
open Go.RowKit Go.Maps
theorem Tryz.keyI:Keyed Tryz.prog 3:=int_keyed Tryz.underlying3
theorem Tryz.zeroU (w:World):(zeroValue 127).run Tryz.prog w = .ok (.agg #[]) w:=by kernel_rfl
theorem ws_step (t:List Int) (p:Nat→Bool) {k:Nat} (hk:k < t.length):ws t p (k + 1) = ws t p k + if p k then t[k] else 0:=by rw [ws,getD_at t hk]
set_option maxHeartbeats 800000 in
theorem Total_any (v:Value) (t:List Int) (W:World) (ht:StOk t) (h:Ints W v t) :
  Calls Tryz.prog 94 #[v] W fun e w'=>e = .returned (.int .i64 (totS t))∧w' = W:=by
 refine z2rz ?_
 have Ht:=hide_ ht
 have hlen:=ht.2.1
 clear ht
 go_enter Tryz.func94,Tryz.ntmps94
 go_wp2_with (first | (refine i_len (.tmp 6) rfl rfl (v:=v) rfl h ?_))
 go_loopw [3,8] (fun s i wr => ∃ (k:Nat),i = .int .i64 k∧k≤t.length∧wr = W∧s = .int .i64 (ws t (fun _=>true) k))
  (fun _ i _=>t.length - (intOf i).toNat)
 case atStart=>exact ⟨0,rfl,Nat.zero_le _,rfl,rfl⟩
 case round =>
  obtain ⟨k,rfl,hk,rfl,rfl⟩:=hrel
  by_cases hlt:k < t.length
  ·obtain ⟨s,hs⟩:∃ s,s = ws t (fun _=>true) k:=⟨_,rfl⟩
   have hsb:=ws_bd Ht.out (fun _=>true) hk
   rw [← hs] at hsb ⊢
   have Hs:=hide_ hs
   clear hs
   have hx:=Ht.out.at hlt
   go_wp2_with (first | (refine i_idx (.tmp 6) (.tmp 8) k rfl rfl (v:=v) rfl h rfl hlt ?_;intro ad had))
   go_roundw
   case rel =>
    refine ⟨k + 1,by go_num,by omega,by trivial, ?_⟩
    rw [ws_step t _ hlt, ← Hs.out,if_pos rfl]
   case measure=>simp [intOf];omega
  ·obtain rfl:k = t.length:=by omega
   go_wp2
   go_ret
   exact Keep.intro ⟨rfl,rfl⟩
def Holds (D:DataW Unit) (n:Nat) (l:List Int):Prop:=IsMap D∧∀ j,j < n→Maps.has D (.int .i64 (j:Int)) = inn l j
theorem key_ne {a b:Nat} (h:a≠b):(Lit.int .i64 (a:Int))≠Lit.int .i64 (b:Int):=fun e=>by injection e with _ e;omega
theorem holds_out {D:DataW Unit} {n:Nat} {l:List Int} (h:Holds D n l) {x:Int} (hx:x < 0∨(n:Int)≤x):Holds D n (l ++ [x]) :=
 ⟨h.1,fun j hj=>by
  rw [h.2 j hj,inn_snoc]
  have:(x == (j:Int)) = false:=by rw [beq_eq_false_iff_ne];omega
  rw [this,Bool.or_false]⟩
theorem holds_old {D:DataW Unit} {n:Nat} {l:List Int} (h:Holds D n l) {x:Nat} (ho:inn l x = true):Holds D n (l ++ [(x:Int)]) :=
 ⟨h.1,fun j hj=>by
  rw [h.2 j hj,inn_snoc,cast_beq]
  by_cases he:x = j
  ·subst he;rw [ho];rfl
  ·have:(x == j) = false:=by simpa using he
   rw [this,Bool.or_false]⟩
theorem holds_new {D:DataW Unit} {n:Nat} {l:List Int} (h:Holds D n l) (x:Nat) (d:DataW Unit) (hk:WideAt.IsKeyLit (Lit.int .i64 (x:Int))):Holds (D.put (.int .i64 (x:Int)) d) n (l ++ [(x:Int)]) :=
 ⟨h.1.put _ _,fun j hj=>by
  rw [inn_snoc,cast_beq]
  by_cases he:x = j
  ·subst he;rw [Maps.has_put_same h.1 hk];simp
  ·have:(x == j) = false:=by simpa using he
   rw [this,Bool.or_false,Maps.has_put_other (key_ne (Ne.symm he)),h.2 j hj]⟩
theorem take_snoc (l:List Int) {k:Nat} (hk:k < l.length):l.take (k + 1) = l.take k ++ [l[k]]:=List.take_succ_eq_append_getElem hk
set_option maxHeartbeats 1600000 in
theorem Sum_any (v u:Value) (t who:List Int) (W:World) (ht:StOk t) (h:Ints W v t) (hu:Ints W u who) (hI:I64s who) (hlen:who.length * 8≤140737488351232) :
  Calls Tryz.prog 93 #[v,u] W fun e w'=>e = .returned (.int .i64 (sumS t who))∧Ext W w':=by
 refine z2rz ?_
 have hmm := @run_makeMap Tryz.prog
 have Ht:=hide_ ht
 have HI:=hide_ hI
 have hl7:=ht.2.1
 clear ht hI
 go_enter Tryz.func93,Tryz.ntmps93
 go_wp2_with (first | (refine i_len (.tmp 12) rfl rfl (v:=u) rfl (hu.ext ((Ext.refl _).alloc _)) ?_))
 go_loopw [5,14] (fun s i wr => ∃ (k:Nat) (D:DataW Unit),i = .int .i64 k∧k≤who.length∧s = .int .i64 (ws t (inn (who.take k)) t.length) ∧
   wr.ownsMap Tryz.prog 3 unitElem W.heap.size k D∧Hid (Holds D t.length (who.take k))∧Ext W wr∧W.heap.size < wr.heap.size)
  (fun _ i _=>who.length - (intOf i).toNat)
 case atStart=>exact ⟨0, .map [],rfl,Nat.zero_le _,by rw [List.take_zero,ws_congr (q:=fun _=>false) _ (fun i _=>inn_nil i)];congr 1;clear Ht hu h;induction t.length with | zero=>rfl | succ n ih=>rw [ws, ← ih];simp,World.ownsMap_made _ _ _ _,⟨isMap_empty,fun j _=>by simp [Maps.has,inn]⟩,(Ext.refl _).alloc _,by simp⟩
 case round =>
  obtain ⟨k,D,rfl,hk,rfl,hown,hD,hX,hsz⟩:=hrel
  by_cases hlt:k < who.length
  ·have hxb:=HI.out who[k] (List.getElem_mem hlt)
   have hkey:keyOf Tryz.prog 3 (.int .i64 who[k]) = some (.int .i64 who[k]):=keyOf_int_mk Tryz.underlying3 (by simp [Lit.wf,IntKind.min,IntKind.max,IntKind.signed,IntKind.bits];omega)
   have Hk:=hide_ hkey
   have Htk:=hide_ (take_snoc who hlt)
   clear hkey hxb
   obtain ⟨s,hs⟩:∃ s,s = ws t (inn (who.take k)) t.length:=⟨_,rfl⟩
   have hsb:=ws_bd Ht.out (inn (who.take k)) (Nat.le_refl _)
   rw [← hs] at hsb ⊢
   have Hs:=hide_ hs
   clear hs
   by_cases hneg:who[k] < 0
   ·have t2:(decide (who[k] < 0)) = true:=by simpa using hneg
    have Ho:=hide_ (show who[k] < 0∨(t.length:Int)≤who[k] from .inl hneg)
    clear hneg
    go_wp2_with (first | (refine i_idx (.tmp 12) (.tmp 14) k rfl rfl (v:=u) rfl (hu.ext hX) rfl hlt ?_;intro ad had))
    go_roundw
    case rel=>exact z5kz
    case measure=>simp [intOf];omega
   ·have t2:(decide (who[k] < 0)) = false:=by simpa using hneg
    by_cases hbig:(t.length:Int)≤who[k]
    ·have t3:(decide ((t.length:Int)≤who[k])) = true:=by simpa using hbig
     have Ho:=hide_ (show who[k] < 0∨(t.length:Int)≤who[k] from .inr hbig)
     clear hneg hbig
     go_wp2_with (first | (refine i_idx (.tmp 12) (.tmp 14) k rfl rfl (v:=u) rfl (hu.ext hX) rfl hlt ?_;intro ad had) | (refine w_yes _ _ _ rfl rfl rfl ?_;refine i_len (.tmp 22) rfl rfl (v:=v) rfl (h.ext hX) ?_))
     go_roundw
     case rel=>exact z5kz
     case measure=>simp [intOf];omega
    ·have t3:(decide ((t.length:Int)≤who[k])) = false:=by simpa using hbig
     obtain ⟨j,hj⟩:∃ j:Nat,who[k] = (j:Int):=⟨who[k].toNat,by omega⟩
     have hjt:j < t.length:=by omega
     have Hj:=hide_ hj
     have hh:=hD.out.2 j hjt
     rw [← hj] at hh
     clear hneg hbig hj
     have hX1:∀ o,Ext W (wr.alloc o):=fun o=>hX.alloc o
     cases ho:inn (who.take k) j
     ·rw [ho] at hh
      have Hn:=hide_ ho
      have hx:=Ht.out.at hjt
      clear ho
      go_wp2_with (first | (refine i_idx (.tmp 12) (.tmp 14) k rfl rfl (v:=u) rfl (hu.ext hX) rfl hlt ?_;intro ad had) | (refine w_yes _ _ _ rfl rfl rfl ?_;refine i_len (.tmp 22) rfl rfl (v:=v) rfl (h.ext hX) ?_) | (at_lookup;refine wpList_lookup_own_unit _ rfl _ _ 124 rfl 3 127 Tryz.keyI Tryz.underlying124 (Tryz.zeroU _) W.heap.size k D rfl hown _ _ rfl Hk.out ?_) | (at_mapUpdate;refine wpList_mapUpdate_own _ rfl _ _ _ 124 rfl 3 127 Tryz.keyI Tryz.underlying124 (unitElem (H:=Unit)) W.heap.size k D rfl (hown.alloc _) (by unfold maxLen;omega) _ _ _ rfl rfl Hk.out _ [] unitElem_mk ?_;intro w1 hown1 hgrow1;have hX2:Ext W w1:=Below.grown (hX.alloc _) hgrow1 (by simp;omega) (fun j hj=>by cases hj;exact Nat.le_refl _)) | (refine i_idx (.tmp 37) (.tmp 38) j rfl rfl (v:=v) rfl (h.ext hX2) (congrArg (Value.int .i64) Hj.out) hjt ?_;intro ad had))
      go_roundw
      case rel =>
       have hs1:=hgrow1.size
       simp at hs1
       refine ⟨k + 1,_,by go_num,by omega,by rw [sum_new t who hlt j Hj.out hjt Hn.out, ← Hs.out],hown1, ?_,hX2,by omega⟩
       have:=holds_new hD.out j (.agg []) (by trivial)
       rw [← Hj.out, ← Htk.out] at this
       exact this
      case measure=>simp [intOf];omega
     ·rw [ho] at hh
      have Hn:=hide_ ho
      clear ho
      go_wp2_with (first | (refine i_idx (.tmp 12) (.tmp 14) k rfl rfl (v:=u) rfl (hu.ext hX) rfl hlt ?_;intro ad had) | (refine w_yes _ _ _ rfl rfl rfl ?_;refine i_len (.tmp 22) rfl rfl (v:=v) rfl (h.ext hX) ?_) | (at_lookup;refine wpList_lookup_own_unit _ rfl _ _ 124 rfl 3 127 Tryz.keyI Tryz.underlying124 (Tryz.zeroU _) W.heap.size k D rfl hown _ _ rfl Hk.out ?_))
      go_roundw
      case rel =>
       refine ⟨k + 1,D,by go_num,by omega,by rw [sum_old t who hlt j Hj.out Hn.out,Hs.out],(hown.alloc _).mono (Nat.le_succ _), ?_,hX.alloc _,by simp;omega⟩
       have:=holds_old hD.out Hn.out
       rw [← Hj.out, ← Htk.out] at this
       exact this
      case measure=>simp [intOf];omega
  ·obtain rfl:k = who.length:=by omega
   rw [List.take_length]
   go_wp2
   go_ret
   exact z4pz
end Go.Proofs.YtdoeoncmhaihbaaGreat
namespace Go.Proofs.YtdoeoncmhaihbaaGreat
set_option maxRecDepth 100000
open Go.RowKit
structure Asked (W:World) (v u:Value) (t who:List Int):Prop where
 ok:StOk t
 st:Ints W v t
 set:Ints W u who
 i64:I64s who
 len:who.length * 8≤140737488351232
theorem Asked.ext {w w':World} {v u:Value} {t who:List Int} (h:Asked w v u t who) (he:Ext w w'):Asked w' v u t who:=⟨h.ok,h.st.ext he,h.set.ext he,h.i64,h.len⟩
theorem Sum_of {W:World} {v u:Value} {t who:List Int} (h:Asked W v u t who):Calls Tryz.prog 93 #[v,u] W fun e w'=>e = .returned (.int .i64 (sumS t who))∧Ext W w' :=
 Sum_any v u t who W h.ok h.st h.set h.i64 h.len
theorem Most_of {W:World} {v u:Value} {t who:List Int} (h:Asked W v u t who):Calls Tryz.prog 89 #[v,u] W fun e w'=>e = .returned (.bool (most t who))∧Ext W w':=by
 refine z2rz ?_
 obtain ⟨s,hs⟩:∃ s,s = sumS t who:=⟨_,rfl⟩
 obtain ⟨z,hz⟩:∃ z,z = totS t:=⟨_,rfl⟩
 have hsb:=sumS_bd h.ok who
 have hzb:=totS_bd h.ok
 rw [← hs] at hsb
 rw [← hz] at hzb
 have hm:=hide_ (show most t who = decide (2 * z < 3 * s) from by rw [hs,hz];rfl)
 have Hs:=hide_ hs
 have Hz:=hide_ hz
 clear hs hz
 go_enter Tryz.func89,Tryz.ntmps89
 go_wp2_with (first | (go_at_call 93;refine (Sum_of h).mono ?_;rintro e w1 ⟨rfl,hX1⟩;rw [← Hs.out]) | (go_at_call 94;refine (Total_any v t _ h.ok (h.st.ext hX1)).mono ?_;rintro e w2 ⟨rfl,rfl⟩;rw [← Hz.out]))
 go_ret
 exact Keep.intro ⟨by rw [hm.out];rfl,hX1⟩
theorem Some_of {W:World} {v u:Value} {t who:List Int} (h:Asked W v u t who):Calls Tryz.prog 77 #[v,u] W fun e w'=>e = .returned (.bool (some3 t who))∧Ext W w':=by
 refine z2rz ?_
 obtain ⟨s,hs⟩:∃ s,s = sumS t who:=⟨_,rfl⟩
 obtain ⟨z,hz⟩:∃ z,z = totS t:=⟨_,rfl⟩
 have hsb:=sumS_bd h.ok who
 have hzb:=totS_bd h.ok
 rw [← hs] at hsb
 rw [← hz] at hzb
 have hm:=hide_ (show some3 t who = decide (z < 3 * s) from by rw [hs,hz];rfl)
 have Hs:=hide_ hs
 have Hz:=hide_ hz
 clear hs hz
 go_enter Tryz.func77,Tryz.ntmps77
 go_wp2_with (first | (go_at_call 93;refine (Sum_of h).mono ?_;rintro e w1 ⟨rfl,hX1⟩;rw [← Hs.out]) | (go_at_call 94;refine (Total_any v t _ h.ok (h.st.ext hX1)).mono ?_;rintro e w2 ⟨rfl,rfl⟩;rw [← Hz.out]))
 go_ret
 exact Keep.intro ⟨by rw [hm.out];rfl,hX1⟩
set_option maxHeartbeats 800000 in
theorem RefCheck_any (v:Value) (l:List Int) (W:World) (h:Ints W v l) :
  Calls Tryz.prog 18 #[v] W fun e w'=>e = .returned (.int .i64 (chk l))∧w' = W:=by
 refine z2rz ?_
 by_cases h1:l.length < 1
 ·have t0:(((l.length:Int)) == 0) = true:=by rw [beq_iff_eq];omega
  have hc:=hide_ (show chk l = 31 from if_neg fun e=>by have:=e.1;omega)
  clear h1
  go_enter Tryz.func18,Tryz.ntmps18
  go_wp2_with (first | (refine i_len (.tmp 5) rfl rfl (v:=v) rfl h ?_))
  go_ret
  exact z6cz
 have t0:(((l.length:Int)) == 0) = false:=by rw [beq_eq_false_iff_ne];omega
 by_cases h2:7 < l.length
 ·have t1:(decide ((7:Int) < (l.length:Int))) = true:=by simp;omega
  have hc:=hide_ (show chk l = 31 from if_neg fun e=>by have:=e.2.1;omega)
  clear h1 h2
  go_enter Tryz.func18,Tryz.ntmps18
  go_wp2_with (first | (refine i_len (.tmp 5) rfl rfl (v:=v) rfl h ?_) | (refine w_yes _ _ _ rfl rfl rfl ?_;refine i_len (.tmp 9) rfl rfl (v:=v) rfl h ?_))
  go_ret
  exact z6cz
 have t1:(decide ((7:Int) < (l.length:Int))) = false:=by simp;omega
 have hb:=hide_ (show 1≤l.length∧l.length≤7 from by omega)
 go_enter Tryz.func18,Tryz.ntmps18
 go_wp2_with (first | (refine i_len (.tmp 5) rfl rfl (v:=v) rfl h ?_) | (refine w_yes _ _ _ rfl rfl rfl ?_;refine i_len (.tmp 9) rfl rfl (v:=v) rfl h ?_) | (refine i_len (.tmp 13) rfl rfl (v:=v) rfl h ?_))
 go_loopw [15] (fun i wr => ∃ (k:Nat),i = .int .i64 k∧k≤l.length∧wr = W∧Hid (∀ x∈l.take k,1≤x∧x≤1000000))
  (fun i _=>l.length - (intOf i).toNat)
 case atStart=>exact ⟨0,rfl,Nat.zero_le _,rfl,fun x hx=>by simp at hx⟩
 case round =>
  obtain ⟨k,rfl,hk,rfl,hall⟩:=hrel
  by_cases hlt:k < l.length
  ·by_cases hlo:l[k] < 1
   ·have t2:(decide (l[k] < 1)) = true:=by simpa using hlo
    have hc:=hide_ (show chk l = 31 from if_neg fun e=>by have:=e.2.2 l[k] (List.getElem_mem hlt);omega)
    clear hlo
    go_wp2_with (first | (refine i_idx (.tmp 13) (.tmp 15) k rfl rfl (v:=v) rfl h rfl hlt ?_;intro ad had))
    go_ret
    exact z6cz
   ·have t2:(decide (l[k] < 1)) = false:=by simpa using hlo
    by_cases hhi:1000000 < l[k]
    ·have t3:(decide (1000000 < l[k])) = true:=by simpa using hhi
     have hc:=hide_ (show chk l = 31 from if_neg fun e=>by have:=e.2.2 l[k] (List.getElem_mem hlt);omega)
     clear hlo hhi
     go_wp2_with (first | (refine i_idx (.tmp 13) (.tmp 15) k rfl rfl (v:=v) rfl h rfl hlt ?_;intro ad had))
     go_ret
     exact z6cz
    ·have t3:(decide (1000000 < l[k])) = false:=by simpa using hhi
     have hx:=hide_ (show 1≤l[k]∧l[k]≤1000000 from by omega)
     clear hlo hhi
     go_wp2_with (first | (refine i_idx (.tmp 13) (.tmp 15) k rfl rfl (v:=v) rfl h rfl hlt ?_;intro ad had))
     go_roundw
     case rel =>
      refine ⟨k + 1,by go_num,by omega,by trivial,fun x hm => ?_⟩
      rw [List.take_succ_eq_append_getElem hlt] at hm
      rcases List.mem_append.1 hm with hm | hm
      ·exact hall.out x hm
      ·simp at hm;subst hm;exact hx.out
     case measure=>simp [intOf];omega
  ·have hc:=hide_ (show chk l = 0 from if_pos ⟨hb.out.1,hb.out.2,by have:=hall.out;rwa [List.take_of_length_le (by omega)] at this⟩)
   go_wp2
   go_ret
   exact z6cz
set_option maxHeartbeats 1600000 in
theorem RefSum_of {W:World} {v u:Value} {t who:List Int} (h:Asked W v u t who) :
  Calls Tryz.prog 19 #[v,u] W fun e w'=>e = .returned (.tuple #[.int .i64 (sumS t who), .int .i64 (totS t)])∧w' = W:=by
 refine z2rz ?_
 have Ht:=hide_ h.ok
 have h1:=h.st
 have h2:=h.set
 have hl7:=h.ok.2.1
 have hlw:=h.len
 clear h
 go_enter Tryz.func19,Tryz.ntmps19
 go_wp2_with (first | (refine i_len (.tmp 13) rfl rfl (v:=v) rfl h1 ?_))
 go_loopw [6,7,15] (fun s z i wr => ∃ (k:Nat),i = .int .i64 k∧k≤t.length∧s = .int .i64 (ws t (inn who) k)∧z = .int .i64 (ws t (fun _=>true) k)∧wr = W)
  (fun _ _ i _=>t.length - (intOf i).toNat)
 case atStart=>exact ⟨0,rfl,Nat.zero_le _,rfl,rfl,rfl⟩
 case round =>
  obtain ⟨k,rfl,hk,rfl,rfl,rfl⟩:=hrel
  by_cases hlt:k < t.length
  ·obtain ⟨s,hs⟩:∃ s,s = ws t (inn who) k:=⟨_,rfl⟩
   obtain ⟨z,hz⟩:∃ z,z = ws t (fun _=>true) k:=⟨_,rfl⟩
   have hsb:=ws_bd Ht.out (inn who) hk
   have hzb:=ws_bd Ht.out (fun _=>true) hk
   rw [← hs] at hsb ⊢
   rw [← hz] at hzb ⊢
   have Hs:=hide_ hs
   have Hz:=hide_ hz
   clear hs hz
   have hx:=Ht.out.at hlt
   go_wp2_with (first | (refine i_idx (.tmp 13) (.tmp 15) k rfl rfl (v:=v) rfl h1 rfl hlt ?_;intro ad had) | (refine i_len (.tmp 20) rfl rfl (v:=u) rfl h2 ?_))
   go_loopw [10,22] (fun b j wr2 => ∃ (m:Nat),j = .int .i64 m∧m≤who.length∧b = .bool (inn (who.take m) k)∧wr2 = wr)
    (fun _ j _=>who.length - (intOf j).toNat)
   case atStart=>exact ⟨0,rfl,Nat.zero_le _,rfl,rfl⟩
   case round =>
    obtain ⟨m,rfl,hm,rfl,rfl⟩:=hrel
    by_cases hml:m < who.length
    ·have Hin:=hide_ (inn_step who k hml)
     cases hb:inn (who.take m) k
     ·rw [hb] at Hin
      clear hb
      go_wp2_with (first | (refine i_idx (.tmp 20) (.tmp 22) m rfl rfl (v:=u) rfl h2 rfl hml ?_;intro ad had))
      go_roundw
      case rel=>exact ⟨m + 1,by go_num,by omega,by rw [Hin.out];rfl,by trivial⟩
      case measure=>simp [intOf];omega
     ·rw [hb] at Hin
      clear hb
      go_wp2_with (first | (refine i_idx (.tmp 20) (.tmp 22) m rfl rfl (v:=u) rfl h2 rfl hml ?_;intro ad had))
      go_roundw
      case rel=>exact ⟨m + 1,by go_num,by omega,by rw [Hin.out];rfl,by trivial⟩
      case measure=>simp [intOf];omega
    ·obtain rfl:m = who.length:=by omega
     rw [List.take_length]
     have Ha:=hide_ (ws_step t (inn who) hlt)
     have Hb:=hide_ (ws_step t (fun _=>true) hlt)
     cases hb:inn who k
     ·rw [hb] at Ha
      clear hb
      go_wp2
      go_roundw
      case rel=>exact ⟨k + 1,by go_num,by omega,by rw [Ha.out, ← Hs.out];simp,by rw [Hb.out, ← Hz.out];simp,by trivial⟩
      case measure=>simp [intOf];omega
     ·rw [hb] at Ha
      clear hb
      go_wp2
      go_roundw
      case rel=>exact ⟨k + 1,by go_num,by omega,by rw [Ha.out, ← Hs.out];simp,by rw [Hb.out, ← Hz.out];simp,by trivial⟩
      case measure=>simp [intOf];omega
  ·obtain rfl:k = t.length:=by omega
   go_wp2
   go_ret2
   exact Keep.intro ⟨rfl,rfl⟩
theorem RefFew_of {W:World} {v u:Value} {t who:List Int} (h:Asked W v u t who):Calls Tryz.prog 6 #[v,u] W fun e w'=>e = .returned (.bool (few t who))∧w' = W:=by
 refine z2rz ?_
 obtain ⟨s,hs⟩:∃ s,s = sumS t who:=⟨_,rfl⟩
 obtain ⟨z,hz⟩:∃ z,z = totS t:=⟨_,rfl⟩
 have hsb:=sumS_bd h.ok who
 have hzb:=totS_bd h.ok
 rw [← hs] at hsb
 rw [← hz] at hzb
 have hm:=hide_ (show few t who = decide (3 * s < z) from by rw [hs,hz];rfl)
 have Hs:=hide_ hs
 have Hz:=hide_ hz
 clear hs hz
 go_enter Tryz.func6,Tryz.ntmps6
 go_wp2_with (first | (go_at_call 19;refine (RefSum_of h).mono ?_;rintro e w1 ⟨rfl,rfl⟩;rw [← Hs.out, ← Hz.out]))
 go_ret
 exact Keep.intro ⟨by rw [hm.out];rfl,rfl⟩
end Go.Proofs.YtdoeoncmhaihbaaGreat
