/- A transaction, among a law's parameters. · The contracts of Right and Less, of package tx and of the document's; two transactions compared. · The contracts of Less, of package tx and of the document's; two transactions compared. · The contracts of Bytes, of package tx and of the document's. · The contract of tx.anyTwice: has one number two transactions? · The contract of tx.readAll: so many transactions of bytes, with nothing behind them. · The contracts of tx.Read, tx.List and tx.ReadList. · The contracts of the document's List and Same (transactions). · The contracts of the document's Read and ReadList (transactions). -/
import Derived.Test.YtdoeoncmhaihbaaGreatPk05
import Derived.Test.YtdoeoncmhaihbaaGreatFB
import Derived.Laws.StructEq
import Derived.Test.YtdoeoncmhaihbaaGreatPk03
namespace Go.Proofs.YtdoeoncmhaihbaaGreat
set_option maxRecDepth 100000
open Go.RowKit Go.ChangeShapes Go.WideShapes Go.ChangeAt
theorem i64_wf {n:Int} (h:(Lit.int .i64 n).wf = true) : -9223372036854775808≤n∧n≤9223372036854775807:=by
 simp [Lit.wf,IntKind.min,IntKind.max,IntKind.signed,IntKind.bits] at h;omega
theorem recs_ok_of {α:Type} {n:Nat} {R:World→List Value → α→Prop} {w:World} {v:Value} {l:List α} {p : α→Prop} (h:Recs n R w v l) (hp:∀ w row d,R w row d→p d):∀ d∈l,p d:=by
 obtain ⟨rows,_,hl,hr⟩:=h
 intro d hd
 obtain ⟨k,hk,rfl⟩:=List.getElem_of_mem hd
 exact hp _ _ _ (hr k _ _ (List.getElem?_eq_getElem (by omega)) (List.getElem?_eq_getElem hk))
instance:Inhabited TxD:=⟨⟨0,0⟩⟩
structure TxD.Raw (d:TxD):Prop where
 id : -9223372036854775808≤d.id∧d.id≤9223372036854775807
 fee : -9223372036854775808≤d.fee∧d.fee≤9223372036854775807
def TxR (_w:World) (row:List Value) (d:TxD):Prop:=(row = [.int .i64 d.id, .int .i64 d.fee])∧d.Raw
theorem TxR.stays:Stays TxR:=fun _ _ _ _ h _=>h
theorem Tryz.stTx:St Tryz.prog 37 2 [.int .i64 0, .int .i64 0]:=St.of (by kernel_rfl) (by kernel_rfl) rfl
theorem Tryz.elTx:ElS Tryz.prog 38 37 2:=ElS.of Tryz.underlying38 (by kernel_rfl)
section
variable {H:Type} {enc:TypeId × Value→H} {W:World}
theorem rd_Tx {fuel:Nat} {cs:List Value} {y:DataW H × List MemPlace} (hlen:cs.length = 2) (hy:DataW.trod enc Tryz.prog W 0 (fun _=>true) true fuel 37 cs = some y) (hw:Fits Tryz.prog 37 y.1):∃ d,TxR W cs d:=by
 obtain ⟨xs,m,_,rfl,_,hxl,hf⟩:=DataW.trod_struct Tryz.underlying37 hy
 match xs,hxl,cs,hlen with
 | [y0,y1],_, [c0,c1],_ =>
  have k0:DataW.trod enc Tryz.prog W 0 (fun _=>true) true m 3 [c0] = some y0:=hf 0 _ rfl
  have k1:DataW.trod enc Tryz.prog W 0 (fun _=>true) true m 3 [c1] = some y1:=hf 1 _ rfl
  simp only [List.map_cons,List.map_nil] at hw
  obtain ⟨a0,e0,_,b0⟩:=DataW.trod_int Tryz.underlying3 k0
  injection e0 with e0 _
  subst e0
  obtain ⟨a1,e1,_,b1⟩:=DataW.trod_int Tryz.underlying3 k1
  injection e1 with e1 _
  subst e1
  exact ⟨⟨a0,a1⟩,rfl,⟨i64_wf b0,i64_wf b1⟩⟩
end
end Go.Proofs.YtdoeoncmhaihbaaGreat
namespace Go.Proofs.YtdoeoncmhaihbaaGreat
set_option maxRecDepth 100000
open Go.RowKit
set_option maxHeartbeats 800000 in
theorem refRight_any (t:TxD) (w:World):Calls Tryz.prog 27 #[.agg #[.int .i64 t.id, .int .i64 t.fee]] w fun e w'=>e = .returned (.bool (decide t.Right))∧Ext w w':=by
 refine z2rz ?_
 by_cases h1:0 < t.id
 ·have t1:decide (0 < t.id) = true:=by simpa using h1
  by_cases h2:t.id≤1000000
  ·have t2:decide (t.id≤1000000) = true:=by simpa using h2
   by_cases h3:0≤t.fee
   ·have t3:decide (0≤t.fee) = true:=by simpa using h3
    by_cases h4:t.fee≤1000
    ·have t4:decide (t.fee≤1000) = true:=by simpa using h4
     have hdec:=hide_ (show decide t.Right = true from decide_eq_true ⟨by omega,h2,h3,h4⟩)
     clear h1 h2 h3 h4
     go_enter Tryz.func27,Tryz.ntmps27
     go_wp2_with ((first | (refine z56z ?_;intro g1 w1 hg1 hX f1) | refine z21z ?_ | fail) <;> (try refine z0z ?_))
     go_ret
     exact z1dz
    ·have t4:decide (t.fee≤1000) = false:=by simpa using h4
     have hdec:=hide_ (show decide t.Right = false from decide_eq_false (fun h=>h4 (by have:=h.2.2.2;omega)))
     clear h1 h2 h3 h4
     go_enter Tryz.func27,Tryz.ntmps27
     go_wp2_with ((first | (refine z56z ?_;intro g1 w1 hg1 hX f1) | refine z21z ?_ | fail) <;> (try refine z0z ?_))
     go_ret
     exact z1dz
   ·have t3:decide (0≤t.fee) = false:=by simpa using h3
    have hdec:=hide_ (show decide t.Right = false from decide_eq_false (fun h=>h3 (by have:=h.2.2.1;omega)))
    clear h1 h2 h3
    go_enter Tryz.func27,Tryz.ntmps27
    go_wp2_with ((first | (refine z56z ?_;intro g1 w1 hg1 hX f1) | refine z21z ?_ | fail) <;> (try refine z0z ?_))
    go_ret
    exact z1dz
  ·have t2:decide (t.id≤1000000) = false:=by simpa using h2
   have hdec:=hide_ (show decide t.Right = false from decide_eq_false (fun h=>h2 (by have:=h.2.1;omega)))
   clear h1 h2
   go_enter Tryz.func27,Tryz.ntmps27
   go_wp2_with ((first | (refine z56z ?_;intro g1 w1 hg1 hX f1) | refine z21z ?_ | fail) <;> (try refine z0z ?_))
   go_ret
   exact z1dz
 ·have t1:decide (0 < t.id) = false:=by simpa using h1
  have hdec:=hide_ (show decide t.Right = false from decide_eq_false (fun h=>h1 (by have:=h.1;omega)))
  clear h1
  go_enter Tryz.func27,Tryz.ntmps27
  go_wp2_with ((first | (refine z56z ?_;intro g1 w1 hg1 hX f1) | refine z21z ?_ | fail) <;> (try refine z0z ?_))
  go_ret
  exact z1dz
theorem Tryz.txFields:Tryz.prog.underlying 37 = some (.struct (Tryz.prog.fieldsOf 37)):=by kernel_rfl
theorem Tryz.txHeld:Tryz.prog.stoodInHeld 37 = false:=by kernel_rfl
theorem Tryz.txGuard:Tryz.prog.eqGuardType Tryz.prog.depth 37 = false:=by kernel_rfl
theorem Tryz.txList : (Tryz.prog.fieldsOf 37).toList.map (fun f => (f.name != "_", f.type, f.offset)) = [(true, 3, 0), (true, 3, 1)] := by kernel_rfl
theorem eqFields_ints {P : Program} {w : World} {ty : TypeId} (hu : P.underlying ty = some (.int .i64)) (d : Nat) (xs ys : List Int) : ∀ (fs : List Field) (k : Nat), fs.map (fun f => (f.name != "_", f.type, f.offset)) = ((List.range fs.length).map fun i => (true, ty, k + i)) → k + fs.length = xs.length → xs.length = ys.length →
  (Op.eqFields (d + 1) (xs.map (Value.int .i64)).toArray (ys.map (Value.int .i64)).toArray fs).run P w = .ok (decide (xs.drop k = ys.drop k)) w
 | [],k,_,h1,h2=>by
  simp only [List.length_nil,Nat.add_zero] at h1
  rw [List.drop_of_length_le (by omega),List.drop_of_length_le (by omega)]
  simp [Op.eqFields]
 | f :: fs,k,hf,h1,h2=>by
  rw [List.length_cons,List.range_succ_eq_map] at hf
  simp only [List.map_cons,List.map_map,Nat.add_zero] at hf
  injection hf with hf0 hfs
  injection hf0 with hn hf0
  injection hf0 with ht ho
  rw [List.length_cons] at h1
  have hk1:k < xs.length:=by omega
  have hk2:k < ys.length:=by omega
  have hne : f.name ≠ "_" := by simpa using hn
  have ih:=eqFields_ints (P:=P) (w:=w) hu d xs ys fs (k + 1) (by rw [hfs];congr 1;funext i;simp [Function.comp];omega) (by omega) h2
  have hag:∀ w:World,(isAgg ty).run P w = .ok false w:=fun w=>by simp [isAgg,run_underlying hu]
  have p1:(part f.type (xs.map (Value.int .i64)).toArray f.offset).run P w = .ok (.int .i64 xs[k]) w:=by
   rw [ht,ho];unfold part;simp [hag,hk1]
  have p2:(part f.type (ys.map (Value.int .i64)).toArray f.offset).run P w = .ok (.int .i64 ys[k]) w:=by
   rw [ht,ho];unfold part;simp [hag,hk2]
  have e1:(Op.equalIn (d + 1) f.type (.int .i64 xs[k]) (.int .i64 ys[k])).run P w = .ok (xs[k] == ys[k]) w:=by
   rw [ht];exact run_equalIn_int w d ty .i64 .i64 xs[k] ys[k] hu
  simp only [Op.eqFields,hne,ne_eq,not_false_eq_true,if_true,Sem.run_bind,p1,p2,e1,Result.andThen_ok]
  have dx:xs.drop k = xs[k] :: xs.drop (k + 1):=List.drop_eq_getElem_cons hk1
  have dy:ys.drop k = ys[k] :: ys.drop (k + 1):=List.drop_eq_getElem_cons hk2
  rw [dx,dy]
  by_cases he:xs[k] = ys[k]
  ·have hb:(xs[k] == ys[k]) = true:=by rw [beq_iff_eq];exact he
   rw [hb]
   simp only [Bool.not_true,Bool.false_eq_true,if_false,ih,he,List.cons.injEq,true_and]
  ·have hb:(xs[k] == ys[k]) = false:=by rw [beq_eq_false_iff_ne];exact he
   rw [hb]
   simp only [Bool.not_false,if_true,Sem.run_pure,he,List.cons.injEq,false_and,decide_false]
section
variable {ops:Array Oper} {rest:List Oper} {o:Oper} {a:Act} {Q:Exit→Act→World→Prop} {w:World}
theorem run_txeq (t u:TxD):(Op.equalIn 10000 37 (.agg #[.int .i64 t.id, .int .i64 t.fee]) (.agg #[.int .i64 u.id, .int .i64 u.fee])).run Tryz.prog w = .ok (decide (t = u)) w:=by
 rw [run_equalIn_struct w 9999 37 _ _ Tryz.txFields Tryz.txHeld]
 have h:=eqFields_ints (P:=Tryz.prog) (w:=w) Tryz.underlying3 9998 [t.id,t.fee] [u.id,u.fee] (Tryz.prog.fieldsOf 37).toList 0 (by rw [Tryz.txList];kernel_rfl) (by kernel_rfl) rfl
 rw [show (#[Value.int .i64 t.id, .int .i64 t.fee]:Array Value) = ([t.id,t.fee].map (Value.int .i64)).toArray from rfl,show (#[Value.int .i64 u.id, .int .i64 u.fee]:Array Value) = ([u.id,u.fee].map (Value.int .i64)).toArray from rfl,h]
 cases t;cases u;simp
theorem runs_txeq {ρ:Operand→Value} (x y:Operand) (t u:TxD) (ho:o.op = .binOp .eql 37 x y 37) (hx : ρ x = .agg #[.int .i64 t.id, .int .i64 t.fee]) (hy : ρ y = .agg #[.int .i64 u.id, .int .i64 u.fee]):Runs Tryz.prog o ρ w (.bool (decide (t = u))):=by
 unfold Runs execOp
 simp only [ho,hx,hy,Sem.run_bind,run_eqGuard_agg w _ _ _ _ _ _ Tryz.txGuard,Result.andThen_ok,run_eql_struct,run_txeq,Sem.run_pure]
theorem runs_txne {ρ:Operand→Value} (x y:Operand) (t u:TxD) (ho:o.op = .binOp .neq 37 x y 37) (hx : ρ x = .agg #[.int .i64 t.id, .int .i64 t.fee]) (hy : ρ y = .agg #[.int .i64 u.id, .int .i64 u.fee]):Runs Tryz.prog o ρ w (.bool (!decide (t = u))):=by
 unfold Runs execOp
 simp only [ho,hx,hy,Sem.run_bind,run_eqGuard_agg w _ _ _ _ _ _ Tryz.txGuard,Result.andThen_ok,run_neq_struct,run_txeq,Sem.run_pure]
theorem w_txne (x y:Operand) (t u:TxD) (hgd:o.guard = none) (ho:o.op = .binOp .neq 37 x y 37) (hx:a.eval x = .agg #[.int .i64 t.id, .int .i64 t.fee]) (hy:a.eval y = .agg #[.int .i64 u.id, .int .i64 u.fee])
  (k:wpList Tryz.prog ops Q rest (a.put o.dst (.bool (!decide (t = u)))) w):wpList Tryz.prog ops Q (o :: rest) a w:=wpList_runs hgd (runs_txne x y t u ho hx hy) k
end
end Go.Proofs.YtdoeoncmhaihbaaGreat
namespace Go.Proofs.YtdoeoncmhaihbaaGreat
set_option maxRecDepth 100000
open Go.RowKit
def tB (t:TxD):List Nat:=if t.Right then nuL t.nums else []
theorem TxD.one (d:TxD):∀ u ∈ [Value.int .i64 d.id, .int .i64 d.fee],u.oneCell' = true:=by
 intro u hu;simp at hu;rcases hu with rfl|rfl <;> rfl
theorem Rdb.nuOk {l:List Int} (h:Rdb l) (hl:l.length≤64):NuOk l:=⟨hl,fun x hx=>(h x hx).1⟩
theorem Rdb.i64 {l:List Int} (h:Rdb l):I64s l:=fun x hx=>by have:=h x hx;omega
theorem refNums_yes {w:World} {v:Value} {l:List Int} (h:Rdb l) (hl:l.length≤64) (hv:Ints w v l):Calls Tryz.prog 66 #[v] w fun e w' => ∃ v',e = .returned (.tuple #[v', .int .i64 0])∧OwnB w.heap.size w' v' (nuL l)∧Ext w w':=by
 refine (refNums_any v l w h.i64 hv).mono ?_
 rintro e w' ⟨v',rfl,h1,h2⟩
 exact ⟨v',by rw [nuErr,if_pos (h.nuOk hl)];rfl,by rw [nuB,if_pos (h.nuOk hl)] at h1;exact h1,h2⟩
def twice (l:List TxD):Bool:=decide (¬ (l.map TxD.id).Nodup)
theorem twice_yes {l:List TxD} {i k:Nat} {x y:TxD} (hik:i < k) (hi:l[i]? = some x) (hk:l[k]? = some y) (h:x.id = y.id):twice l = true:=by
 refine decide_eq_true fun hn => ?_
 have hkl:=(List.getElem?_eq_some_iff.1 hk).1
 have:=List.pairwise_iff_getElem.1 hn i k (by simp;omega) (by simpa using hkl) hik
 rw [List.getElem?_eq_getElem (by omega)] at hi
 rw [List.getElem?_eq_getElem hkl] at hk
 injection hi with hi
 injection hk with hk
 simp only [List.getElem_map] at this
 exact this (by rw [hi,hk];exact h)
theorem twice_no {l:List TxD} (h:∀ i k,i < k→k < l.length→∀ x y,l[i]? = some x→l[k]? = some y→x.id≠y.id):twice l = false:=by
 refine decide_eq_false fun hn=>hn ?_
 refine List.pairwise_iff_getElem.2 fun i k hi hk hik => ?_
 simp only [List.length_map] at hi hk
 simp only [List.getElem_map]
 exact h i k hik hk _ _ (List.getElem?_eq_getElem hi) (List.getElem?_eq_getElem hk)
def TxD.row (d:TxD):List Value:=[.int .i64 d.id, .int .i64 d.fee]
theorem TxD.Right.raw {t:TxD} (h:t.Right):t.Raw:=by
 obtain ⟨h1,h2,h3,h4⟩:=h
 exact ⟨by omega,by omega⟩
def pairs:List Int→List TxD
 | i :: f :: r=>⟨i,f⟩ :: pairs r
 | _ => []
def rdAll (m:Nat) (b:List Nat):Option (List TxD):=match rns (2 * m) b with
 | some (xs, [])=>if ∀ t∈pairs xs,t.Right then some (pairs xs) else none
 | _=>none
theorem Tryz.elTxN:ElN Tryz.prog 38 37 2 16 (.agg #[.int .i64 0, .int .i64 0]):=ElN.of Tryz.underlying38 (by kernel_rfl) rfl (by omega) (by omega)
structure OwnT (lo:Nat) (w:World) (v:Value) (l:List TxD):Prop where
 own:RowN (fun k=>v.ownBlock = some k) w 37 2 v (l.map TxD.row)
 raw:∀ t∈l,t.Raw
 new:∀ k,v.ownBlock = some k→lo≤k
section
variable {lo lo':Nat} {w w':World} {v v':Value} {l:List TxD}
theorem OwnT.ext (h:OwnT lo w v l) (he:Ext w w'):OwnT lo w' v l:=⟨h.own.ext he,h.raw,h.new⟩
theorem OwnT.mono (h:OwnT lo w v l) (hl:lo'≤lo):OwnT lo' w v l:=⟨h.own,h.raw,fun k hk=>Nat.le_trans hl (h.new k hk)⟩
theorem OwnT.mod {G:Nat→Prop} (h:OwnT lo w v l) (hm:Mod G w w') (hG:∀ k,v.ownBlock = some k→¬ G k):OwnT lo w' v l:=⟨h.own.mod hm hG,h.raw,h.new⟩
theorem OwnT.lt (h:OwnT lo w v l) {k:Nat} (hk:v.ownBlock = some k):k < w.heap.size:=h.own.lt hk
theorem rows_recs {rows:List (List Value)} (h:rows = l.map TxD.row) (hr:∀ t∈l,t.Raw):∀ (k:Nat) (row:List Value) (d:TxD),rows[k]? = some row→l[k]? = some d→TxR w row d:=fun k row d hk hd=>by
 subst h
 rw [List.getElem?_map,hd] at hk
 cases hk
 exact ⟨rfl,hr d (List.mem_of_getElem? hd)⟩
theorem OwnT.recs (h:OwnT lo w v l):Recs 2 TxR w v l:=h.own.recs (by simp) (rows_recs rfl h.raw)
theorem OwnT.nil (lo:Nat) (w:World):OwnT lo w (.slice none 0 0) []:=⟨RowN.nil _ _ _,fun _ h=>by simp at h,fun _ hk=>nomatch hk⟩
theorem OwnT.of {F:Nat→Prop} (h:RowN F w 37 2 v (l.map TxD.row)) (hr:∀ t∈l,t.Raw) (hF:∀ k,F k→lo≤k):OwnT lo w v l:=⟨⟨h.own,h.each,fun _ h=>h⟩,hr,fun k hk=>hF k (h.inF k hk)⟩
end
section
variable {w:World} {v:Value} {b s:List Nat} {xs:List Int} {m:Nat}
end
section
variable {w:World} {v:Value} {b:List Nat} {t:TxD}
end
def tOr (o:Option TxD):TxD:=match o with | some t=>t | none=>⟨0,0⟩
def oE {α:Type} (o:Option α):Nat:=match o with | some _=>0 | none=>61
def tlB (l:List TxD):List Nat:=if LsOk l then lsB l else []
def tlE (l:List TxD):Nat:=if LsOk l then 0 else 61
theorem twice_false {l:List TxD}:twice l = false ↔ (l.map TxD.id).Nodup:=by simp [twice]
theorem txNums_snoc (l:List TxD) (t:TxD):txNums (l ++ [t]) = txNums l ++ t.nums:=by simp [txNums]
theorem lsOk_of {l:List TxD} (h:l.length≤3) (ht:twice l = false) (hr:∀ t∈l,t.Right):LsOk l:=⟨h,hr,twice_false.1 ht⟩
def rdLs (b:List Nat):Option (List TxD):=match rns 1 b with
 | some ([n],s)=>if 0≤n∧n≤3 then (match rdAll n.toNat s with | some l=>if twice l then none else some l | none=>none) else none
 | _=>none
theorem lsNums_len (l:List TxD):(lsNums l).length = 1 + 2 * l.length:=by simp [lsNums,txNums_len];omega
set_option maxHeartbeats 1600000 in
theorem refTList_any {v:Value} {l:List TxD} {W:World} (hl:Recs 2 TxR W v l) :
  Calls Tryz.prog 48 #[v] W fun e w' => ∃ v',e = .returned (.tuple #[v', .int .i64 (tlE l:Nat)])∧OwnB W.heap.size w' v' (tlB l)∧Ext W w':=by
 refine z2rz ?_
 have No:¬ LsOk l→Hid (∀ e w',e = .returned (.tuple #[.slice none 0 0, .int .i64 61])→Ext W w'→Keep (fun e w' => ∃ v',e = .returned (.tuple #[v', .int .i64 (tlE l:Nat)])∧OwnB W.heap.size w' v' (tlB l)∧Ext W w') e w'):=fun h=>hide_ (fun e w' he hx=>Keep.intro ⟨.slice none 0 0,by rw [he,tlE,if_neg h];rfl,by rw [tlB,if_neg h];exact OwnB.nil _ _,hx⟩)
 have hX:=Ext.refl W
 by_cases hbig:3 < l.length
 ·have t1:decide ((3:Int) < (l.length:Int)) = true:=by simp;omega
  replace No:=No fun h=>by have:=h.len;omega
  clear hbig
  go_enter Tryz.func48,Tryz.ntmps48
  go_wp2_with ((first | refine w_rlen Tryz.elTx _ rfl rfl (v:=v) rfl (hl.ext TxR.stays hX) ?_ | fail) <;> (try refine z0z ?_))
  go_ret2
  exact No.out _ _ rfl hX
 have t1:decide ((3:Int) < (l.length:Int)) = false:=by simp;omega
 have hl3:l.length≤3:=by omega
 clear hbig
 go_enter Tryz.func48,Tryz.ntmps48
 go_wp2_with ((first | refine w_rlen Tryz.elTx _ rfl rfl (v:=v) rfl (hl.ext TxR.stays hX) ?_ | (refine w_new Tryz.elI (i64s [(l.length:Int)]) rfl rfl rfl (i64s_cells _) rfl (by omega) ?_;intro v2 w3 hx3 o2;replace o2:=OwnI.mono (show OwnI _ w3 v2 [(l.length:Int)] from o2) hX.size;replace hX:=hX.trans hx3;clear hx3) | fail) <;> (try refine z0z ?_))
 go_loopw [4,17] (fun vo i wr => ∃ k:Nat,i = .int .i64 k∧k≤l.length∧Hid ((∀ t∈l.take k,t.Right)∧∀ i j,i < j→j < k→∀ x y,l[i]? = some x→l[j]? = some y→x.id≠y.id)∧OwnI W.heap.size wr vo ((l.length:Int) :: txNums (l.take k))∧Ext W wr) (fun _ i _=>l.length - (intOf i).toNat)
 case atStart=>exact ⟨0,rfl,Nat.zero_le _,hide_ ⟨by simp,fun i j _ h=>by omega⟩,o2,hX⟩
 case round =>
  clear o2 hX
  obtain ⟨k,rfl,hk,hall,o2,hX⟩:=hrel
  by_cases hge:l.length≤k
  ·obtain rfl:k = l.length:=by omega
   have t2:decide (l.length < l.length) = false:=by simp
   rw [List.take_length] at hall o2
   have hok:=lsOk_of hl3 (twice_no fun i j hij hj=>hall.out.2 i j hij hj) hall.out.1
   have e1:=hide_ (show tlE l = 0 from if_pos hok)
   have e2:=hide_ (show tlB l = nuL ((l.length:Int) :: txNums l) from if_pos hok)
   have hrd:=hide_ (show Rdb ((l.length:Int) :: txNums l) from hok.rdb)
   have hlen:=hide_ (show ((l.length:Int) :: txNums l).length≤64 from by have:=lsNums_len l;unfold lsNums at this;omega)
   clear hge hok
   go_wp2_with (first | (go_at_call 66;refine (refNums_yes hrd.out hlen.out o2.ints).mono ?_;rintro e w4 ⟨v3,rfl,o3,hx4⟩;replace o3:=o3.mono hX.size;replace hX:=hX.trans hx4;clear o2 hx4) | fail)
   go_ret2
   exact Keep.intro ⟨_,by rw [e1.out];rfl,by rw [e2.out];exact o3,hX⟩
  have hlt:k < l.length:=by omega
  have t2:decide (k < l.length) = true:=by simpa using hlt
  obtain ⟨d,hd⟩:∃ d,l[k] = d:=⟨_,rfl⟩
  have hdk:=hide_ (show l[k]? = some d from by rw [List.getElem?_eq_getElem hlt,hd])
  have hlk:=hide_ hd
  have hdm:d∈l:=hd ▸ List.getElem_mem hlt
  have htk:=hide_ (show (l.take k).length = k from by simp;omega)
  clear hge hd
  by_cases hdr:d.Right
  rotate_left
  ·replace No:=No fun h=>hdr (h.right d hdm)
   have hdec:=hide_ (decide_eq_false hdr)
   clear hall hdm hdr
   go_wp2_with ((first | (refine w_ridx0 Tryz.elTx _ _ k TxR.stays rfl rfl (v:=v) rfl rfl hl hX hlt ?_;rintro p row hrow hrl ⟨rfl,hraw⟩;rw [hlk.out] at hrow) | refine w_pload Tryz.stTx _ rfl rfl rfl (hrow.ext hX) rfl ?_ | (refine w_alloc Tryz.stTx rfl rfl ?_;intro g6 w4 hg6 hx4 f6) | (refine w_astore Tryz.stTx (us:=[.int .i64 d.id, .int .i64 d.fee]) _ _ rfl rfl rfl rfl rfl f6 rfl rfl d.one ?_;intro w5 hm5 f5;replace f6:=f5;have hx:=hm5.after hx4 (fun i e=>e ▸ hg6);replace o2:=o2.ext hx;replace hX:=hX.trans hx;clear f5 hm5 hx4 hg6 hx hrow hrl hraw) | refine w_aload Tryz.stTx _ rfl rfl rfl f6 rfl ?_ | (go_at_call 27;refine (refRight_any d _).mono ?_;rintro e w7 ⟨rfl,hx7⟩;rw [hdec.out];replace f6:=f6.ext hx7;replace o2:=o2.ext hx7;replace hX:=hX.trans hx7;clear hx7) | fail) <;> (try refine z0z ?_))
   go_ret2
   exact No.out _ _ rfl hX
  have hdec:=hide_ (decide_eq_true hdr)
  have hbig:=hide_ (show (((l.length:Int) :: txNums (l.take k)).length + d.nums.length) * 8≤140737488355328 from by
   have:=txNums_len (l.take k)
   rw [htk.out] at this
   simp [TxD.nums];omega)
  clear hdm
  replace hdr:=hide_ hdr
  go_wp2_with ((first | (refine w_ridx0 Tryz.elTx _ _ k TxR.stays rfl rfl (v:=v) rfl rfl hl hX hlt ?_;rintro p row hrow hrl ⟨rfl,hraw⟩;rw [hlk.out] at hrow) | refine w_pload Tryz.stTx _ rfl rfl rfl (hrow.ext hX) rfl ?_ | (refine w_alloc Tryz.stTx rfl rfl ?_;intro g6 w4 hg6 hx4 f6) | (refine w_astore Tryz.stTx (us:=[.int .i64 d.id, .int .i64 d.fee]) _ _ rfl rfl rfl rfl rfl f6 rfl rfl d.one ?_;intro w5 hm5 f5;replace f6:=f5;have hx:=hm5.after hx4 (fun i e=>e ▸ hg6);replace o2:=o2.ext hx;replace hX:=hX.trans hx;clear f5 hm5 hx4 hg6 hx hrow hrl hraw) | refine w_aload Tryz.stTx _ rfl rfl rfl f6 rfl ?_ | (go_at_call 27;refine (refRight_any d _).mono ?_;rintro e w7 ⟨rfl,hx7⟩;rw [hdec.out];replace f6:=f6.ext hx7;replace o2:=o2.ext hx7;replace hX:=hX.trans hx7;clear hx7) | (refine w_nto0 Tryz.elTx _ _ k rfl rfl (v:=v) rfl rfl hl (by omega) ?_;intro vs hs) | (refine w_rlen Tryz.elTx _ rfl rfl (v:=vs) rfl (hs.ext TxR.stays hX) ?_;rw [htk.out]) | fail) <;> (try refine z0z ?_))
  go_loopw [29] (fun i wr => ∃ j:Nat,i = .int .i64 j∧j≤k∧Hid (∀ i,i < j→∀ x,l[i]? = some x→x.id≠d.id)∧Fs wr g6 [.int .i64 d.id, .int .i64 d.fee]∧OwnI W.heap.size wr u4 ((l.length:Int) :: txNums (l.take k))∧Ext W wr) (fun i _=>k - (intOf i).toNat)
  case atStart=>exact ⟨0,rfl,Nat.zero_le _,fun i h=>by omega,f6,o2,hX⟩
  case round =>
   clear f6 hX o2
   obtain ⟨j,rfl,hj,hm,f6,o2,hX⟩:=hrel
   by_cases hjlt:j < k
   ·have t3:decide (j < k) = true:=by simpa using hjlt
    obtain ⟨d2,hd2⟩:∃ d2,(l.take k)[j]'(by simp;omega) = d2:=⟨_,rfl⟩
    have hdj:=hide_ (show l[j]? = some d2 from by rw [← hd2,List.getElem_take,List.getElem?_eq_getElem])
    have hlj:=hide_ hd2
    clear hd2
    cases hc:(d2.id == d.id)
    ·have hm2:=hide_ (show ∀ i,i < j + 1→∀ x,l[i]? = some x→x.id≠d.id from fun i hi x hx=>by
      by_cases hij:i < j
      ·exact hm.out i hij x hx
      ·obtain rfl:i = j:=by omega
       rw [hdj.out] at hx;cases hx
       rw [beq_eq_false_iff_ne] at hc
       exact hc)
     clear hm
     go_wp2_with ((first | (refine w_ridx0 Tryz.elTx _ _ j TxR.stays rfl rfl (v:=vs) rfl rfl hs hX (by rw [htk.out];exact hjlt) ?_;rintro p row hrow hrl ⟨rfl,hraw⟩;rw [hlj.out] at hrow) | refine w_pload Tryz.stTx _ rfl rfl rfl (hrow.ext hX) rfl ?_ | (refine w_alloc Tryz.stTx rfl rfl ?_;intro g8 w8 hg8 hx8 f8;have n68:¬ g6 = g8:=(by have:=f6.lt;omega);replace f6:=f6.ext hx8) | (refine w_astore Tryz.stTx (us:=[.int .i64 d2.id, .int .i64 d2.fee]) _ _ rfl rfl rfl rfl rfl f8 rfl rfl d2.one ?_;intro w9 hm9 f9;replace f8:=f9;have hx:=hm9.after hx8 (fun i e=>e ▸ hg8);replace f6:=f6.mod hm9 n68;replace o2:=o2.ext hx;replace hX:=hX.trans hx;clear f9 hm9 hx8 hg8 hx hrow hrl hraw) | refine z50z ?_ | refine w_fload _ rfl rfl rfl f8 rfl (agg_of (by kernel_rfl)) ?_ | fail) <;> (try refine z0z ?_))
     go_roundw
     case rel=>exact ⟨j + 1,by go_num,by omega,hm2,f6,o2,hX⟩
     case measure=>simp [intOf];omega
    ·replace No:=No fun h=>by
      have h1:=twice_yes hjlt hdj.out hdk.out (by rw [beq_iff_eq] at hc;exact hc)
      rw [twice_false.2 h.ids] at h1;cases h1
     clear hm
     go_wp2_with ((first | (refine w_ridx0 Tryz.elTx _ _ j TxR.stays rfl rfl (v:=vs) rfl rfl hs hX (by rw [htk.out];exact hjlt) ?_;rintro p row hrow hrl ⟨rfl,hraw⟩;rw [hlj.out] at hrow) | refine w_pload Tryz.stTx _ rfl rfl rfl (hrow.ext hX) rfl ?_ | (refine w_alloc Tryz.stTx rfl rfl ?_;intro g8 w8 hg8 hx8 f8;have n68:¬ g6 = g8:=(by have:=f6.lt;omega);replace f6:=f6.ext hx8) | (refine w_astore Tryz.stTx (us:=[.int .i64 d2.id, .int .i64 d2.fee]) _ _ rfl rfl rfl rfl rfl f8 rfl rfl d2.one ?_;intro w9 hm9 f9;replace f8:=f9;have hx:=hm9.after hx8 (fun i e=>e ▸ hg8);replace f6:=f6.mod hm9 n68;replace o2:=o2.ext hx;replace hX:=hX.trans hx;clear f9 hm9 hx8 hg8 hx hrow hrl hraw) | refine z50z ?_ | refine w_fload _ rfl rfl rfl f8 rfl (agg_of (by kernel_rfl)) ?_ | fail) <;> (try refine z0z ?_))
     go_ret2
     exact No.out _ _ rfl hX
   ·have t3:decide (j < k) = false:=by simpa using hjlt
    have htk1:l.take (k + 1) = l.take k ++ [d]:=by rw [List.take_succ_eq_append_getElem hlt,hlk.out]
    have hall2:=hide_ (show (∀ t∈l.take (k + 1),t.Right)∧∀ i j,i < j→j < k + 1→∀ x y,l[i]? = some x→l[j]? = some y→x.id≠y.id from ⟨fun t ht=>by
      rw [htk1] at ht
      rcases List.mem_append.1 ht with ht | ht
      ·exact hall.out.1 t ht
      ·rw [List.mem_singleton] at ht;subst ht;exact hdr.out,fun i j' hij hj' x y hx hy=>by
      by_cases hjk:j' < k
      ·exact hall.out.2 i j' hij hjk x y hx hy
      ·obtain rfl:j' = k:=by omega
       rw [hdk.out] at hy;cases hy
       exact hm.out i (by omega) x hx⟩)
    have hcat:=hide_ (show ((l.length:Int) :: txNums (l.take k)) ++ d.nums = (l.length:Int) :: txNums (l.take (k + 1)) from by
     rw [htk1,txNums_snoc];rfl)
    clear hm hall hjlt htk1
    go_wp2_with ((first | refine z50z ?_ | (refine w_new Tryz.elI (i64s d.nums) rfl rfl rfl (i64s_cells _) rfl (by omega) ?_;intro v3 w3 hx3 o3;have i3:Ints w3 v3 d.nums:=OwnI.ints (show OwnI _ w3 v3 d.nums from o3);replace o2:=o2.ext hx3;replace hX:=hX.trans hx3;clear hx3 o3 f6) | (refine appi _ _ rfl rfl rfl rfl o2 i3 hbig.out hX.size ?_;intro v9 w9 o9 hb9 hg9 hh9;replace hX:=hX.trans' hb9;replace o2:=o9;clear i3 hb9 hg9 o9 hh9) | fail) <;> (try refine z0z ?_))
    rw [hcat.out] at o2
    go_roundw
    case rel=>exact ⟨k + 1,by go_num,by omega,hall2,o2,hX⟩
    case measure=>simp [intOf];omega
theorem rtxne {o:Oper} {ρ:Operand→Value} {w:World} (x y:Operand) {t u:TxD} {b:Bool} (ho:o.op = .binOp .neq 37 x y 37) (hx:(Sp.recv TxR TxR.stays t).p (ρ x) w) (hy:(Sp.recv TxR TxR.stays u).p (ρ y) w) (hb:(!decide (t = u)) = b) :
  ∃ v',Runs Tryz.prog o ρ w v'∧(Sp.val (.bool b)).p v' w:=by
 obtain ⟨row,h1,rfl,_⟩:=hx
 obtain ⟨row',h2,rfl,_⟩:=hy
 subst hb
 exact ⟨_,runs_txne x y t u ho h1 h2,rfl⟩
set_option maxHeartbeats 1600000 in
theorem Same_any {W:World} {a b:Value} {l m:List TxD} (ha0:Recs 2 TxR W a l) (hb0:Recs 2 TxR W b m) :
  Calls Tryz.prog 65 #[a,b] W fun e w'=>e = .returned (.bool (decide (l = m)))∧Ext W w':=by
 refine z2rz ?_
 have hmax:l.length≤9223372036854775807:=by have:=ha0.len_le;unfold maxLen at this;omega
 have ha:=hide_ ha0
 have hb:=hide_ hb0
 clear ha0 hb0
 by_cases hlm:l.length = m.length
 rotate_left
 ·have t1:((l.length:Int) == (m.length:Int)) = false:=by rw [beq_eq_false_iff_ne];omega
  have hno:=hide_ (show decide (l = m) = false from decide_eq_false fun h=>hlm (by rw [h]))
  clear hlm
  go_enter Tryz.func65,Tryz.ntmps65
  go_wp2_with ((first | refine z43z ?_ | fail) <;> (try refine z0z ?_))
  go_ret
  exact Keep.intro ⟨by rw [hno.out];rfl,Ext.refl _⟩
 have t1:((l.length:Int) == (m.length:Int)) = true:=by rw [beq_iff_eq];omega
 replace hlm:=hide_ hlm
 go_enter Tryz.func65,Tryz.ntmps65
 go_wp2_with ((first | refine z43z ?_ | fail) <;> (try refine z0z ?_))
 go_loopw [13] (fun i wr => ∃ k:Nat,i = .int .i64 k∧k≤l.length∧Hid (l.take k = m.take k)∧Ext W wr) (fun i _=>l.length - (intOf i).toNat)
 case atStart=>exact ⟨0,rfl,Nat.zero_le _,hide_ rfl,Ext.refl _⟩
 case round =>
  obtain ⟨k,rfl,hk,heq,hX⟩:=hrel
  by_cases hge:l.length≤k
  ·obtain rfl:k = l.length:=by omega
   have t2:decide (l.length < l.length) = false:=by simp
   have hyes:=hide_ (show decide (l = m) = true from decide_eq_true (by have:=heq.out;rw [List.take_length] at this;rw [hlm.out,List.take_length] at this;exact this))
   clear hge heq
   go_wp2
   go_ret
   exact Keep.intro ⟨by rw [hyes.out];rfl,hX⟩
  have hlt:k < l.length:=by omega
  have t2:decide (k < l.length) = true:=by simpa using hlt
  obtain ⟨d,hd0⟩:∃ d,l[k]? = some d:=⟨_,List.getElem?_eq_getElem hlt⟩
  obtain ⟨d2,hd20⟩:∃ d2,m[k]? = some d2:=⟨_,List.getElem?_eq_getElem (by have:=hlm.out;omega)⟩
  have hd:=hide_ hd0
  have hd2:=hide_ hd20
  clear hge hd0 hd20
  by_cases hdd:d = d2
  ·have hc:=hide_ (show (!decide (d = d2)) = false from by simp [hdd])
   have heq2:=hide_ (show l.take (k + 1) = m.take (k + 1) from by rw [List.take_add_one,List.take_add_one,heq.out,hd.out,hd2.out,hdd])
   clear heq hdd
   go_wp2
   refine zmz ?_;intro wd hxd;have ha1:=ha.out.ext TxR.stays (hX.trans hxd);have hb1:=hb.out.ext TxR.stays (hX.trans hxd)
   refine z57z ?_
   intro wN hxN
   refine z3bz ?_
   intro q18 hq18 q19 hq19 q22 hq22 q23 hq23
   refine z0z ?_
   replace hX:=hX.trans (hxd.trans hxN)
   clear hxd hxN ha1 hb1 hq18 hq19 hq22 hq23
   go_wp2
   go_roundw
   case rel=>exact ⟨k + 1,by go_num,by omega,heq2,hX⟩
   case measure=>simp [intOf];omega
  ·have hc:=hide_ (show (!decide (d = d2)) = true from by simp [hdd])
   have hno:=hide_ (show decide (l = m) = false from decide_eq_false fun h=>hdd (by subst h;have:=hd.out.symm.trans hd2.out;injection this))
   clear heq hdd
   go_wp2
   refine zmz ?_;intro wd hxd;have ha1:=ha.out.ext TxR.stays (hX.trans hxd);have hb1:=hb.out.ext TxR.stays (hX.trans hxd)
   refine z5fz ?_
   intro wN hxN
   refine z3bz ?_
   intro q18 hq18 q19 hq19 q22 hq22 q23 hq23
   refine z0z ?_
   replace hX:=hX.trans (hxd.trans hxN)
   go_wp2
   go_ret
   exact Keep.intro ⟨by rw [hno.out];rfl,hX⟩
end Go.Proofs.YtdoeoncmhaihbaaGreat
