/- The contracts of package view: Leader, Patience, Set, Tick, of any numbers. Condition: for Set and Tick a timer that lies in one cell. · A core in memory: its cells, its maps, its tally, its decisions; what is done in one call beside it. Steps at structs that lie within others. · Operations of a phase in few words: what a walk's text says of each, by defaults. · A new tally; whether one can vote so; what a node voted; one more vote. · One more vote. · The contracts of the library on maps.Keys, laid over this program's maps of numbers and of nothing. · Who voted, and who voted for a value, rising; the views in which anybody voted. · Who voted for a value, rising; the views in which anybody voted. · The views in which anybody voted, rising. -/
import Derived.Test.YtdoeoncmhaihbaaGreatPk05
import Derived.Test.YtdoeoncmhaihbaaGreatFB
import Derived.Test.YtdoeoncmhaihbaaGreatPk03
import Derived.Test.YtdoeoncmhaihbaaGreatPk08
import Derived.Shelf.SlIterI.Nil
import Derived.Shelf.SlIterI.Stops
namespace Go.Proofs.YtdoeoncmhaihbaaGreat
set_option maxHeartbeats 3200000
set_option maxRecDepth 100000
open Go.RowKit
def wtn (n a b:Int):Bool:=decide (a≤n∧n≤b)
theorem wtn_yes {n a b:Int} (h:a≤n∧n≤b):wtn n a b = true:=decide_eq_true h
theorem wtn_no {n a b:Int} (h:¬ (a≤n∧n≤b)):wtn n a b = false:=decide_eq_false h
set_option maxHeartbeats 1600000 in
theorem Within_any {w:World} {n a b:Int}:Calls Tryz.prog 72 #[.int .i64 n, .int .i64 a, .int .i64 b] w fun e w'=>e = .returned (.bool (wtn n a b))∧Ext w w':=by
 refine z2rz ?_
 have hX:=Ext.refl w
 by_cases h1:a≤n
 ·by_cases h2:n≤b
  ·have hq:=hide_ (wtn_yes ⟨h1,h2⟩)
   have t1:decide (a≤n) = true:=decide_eq_true h1
   have t2:decide (n≤b) = true:=decide_eq_true h2
   clear h1 h2
   go_enter Tryz.func72,Tryz.ntmps72
   go_wp2
   go_ret
   exact z3oz
  ·have hq:=hide_ (wtn_no (n:=n) (a:=a) (b:=b) fun h=>h2 h.2)
   have t1:decide (a≤n) = true:=decide_eq_true h1
   have t2:decide (n≤b) = false:=decide_eq_false h2
   clear h1 h2
   go_enter Tryz.func72,Tryz.ntmps72
   go_wp2
   go_ret
   exact z3oz
 ·have hq:=hide_ (wtn_no (n:=n) (a:=a) (b:=b) fun h=>h1 h.1)
  have t1:decide (a≤n) = false:=decide_eq_false h1
  clear h1
  go_enter Tryz.func72,Tryz.ntmps72
  go_wp2
  go_ret
  exact z3oz
theorem Leader_any {w:World} {i v n:Int}:Calls Tryz.prog 56 #[.int .i64 i, .int .i64 v, .int .i64 n] w fun e w'=>e = .returned (.int .i64 (ldr i v n))∧Ext w w':=by
 refine z2rz ?_
 have hX:=Ext.refl w
 by_cases h1:0≤i∧i≤1000
 ·have q1:=hide_ (wtn_yes h1)
  by_cases h2:0≤v∧v≤1000
  ·have q2:=hide_ (wtn_yes h2)
   by_cases h3:1≤n∧n≤7
   ·have q3:=hide_ (wtn_yes h3)
    have hq:=hide_ (ldr_good (show 0≤i∧i≤1000∧0≤v∧v≤1000∧1≤n∧n≤7 by omega))
    obtain ⟨h1a,h1b⟩:=h1;obtain ⟨h2a,h2b⟩:=h2;obtain ⟨h3a,h3b⟩:=h3
    go_enter Tryz.func56,Tryz.ntmps56
    go_wp2_with (first | (go_at_call 72;refine Within_any.mono ?_;rintro e w4 ⟨rfl,hx⟩;(first | rw [q1.out] | rw [q2.out] | rw [q3.out]);replace hX:=hX.trans hx;clear hx) | fail)
    go_ret
    exact z3oz
   ·have q3:=hide_ (wtn_no h3)
    have hq:=hide_ (ldr_bad (i:=i) (v:=v) (n:=n) fun h=>h3 ⟨h.2.2.2.2.1,h.2.2.2.2.2⟩)
    clear h1 h2 h3
    go_enter Tryz.func56,Tryz.ntmps56
    go_wp2_with (first | (go_at_call 72;refine Within_any.mono ?_;rintro e w4 ⟨rfl,hx⟩;(first | rw [q1.out] | rw [q2.out] | rw [q3.out]);replace hX:=hX.trans hx;clear hx) | fail)
    go_ret
    exact z3oz
  ·have q2:=hide_ (wtn_no h2)
   have hq:=hide_ (ldr_bad (i:=i) (v:=v) (n:=n) fun h=>h2 ⟨h.2.2.1,h.2.2.2.1⟩)
   clear h1 h2
   go_enter Tryz.func56,Tryz.ntmps56
   go_wp2_with (first | go_big_skip | (go_at_call 72;refine Within_any.mono ?_;rintro e w4 ⟨rfl,hx⟩;(first | rw [q1.out] | rw [q2.out]);replace hX:=hX.trans hx;clear hx) | fail)
   go_ret
   exact z3oz
 ·have q1:=hide_ (wtn_no h1)
  have hq:=hide_ (ldr_bad (i:=i) (v:=v) (n:=n) fun h=>h1 ⟨h.1,h.2.1⟩)
  clear h1
  go_enter Tryz.func56,Tryz.ntmps56
  go_wp2_with (first | go_big_skip | (go_at_call 72;refine Within_any.mono ?_;rintro e w4 ⟨rfl,hx⟩;rw [q1.out];replace hX:=hX.trans hx;clear hx) | fail)
  go_ret
  exact z3oz
theorem Patience_any {w:World} {v b m:Int} (hvI:v≤9223372036854775807):Calls Tryz.prog 71 #[.int .i64 v, .int .i64 b, .int .i64 m] w fun e w'=>e = .returned (.int .i64 (pat v b m))∧Ext w w':=by
 refine z2rz ?_
 have hX:=Ext.refl w
 by_cases h1:1≤m∧m≤1000
 ·have q1:=hide_ (wtn_yes h1)
  by_cases h0:v < 0
  ·have d0:decide (v < 0) = true:=decide_eq_true h0
   have hq:=hide_ (pat_cap (v:=v) (b:=b) h1 fun h=>by omega)
   clear h0 h1 hvI
   go_enter Tryz.func71,Tryz.ntmps71
   go_wp2_with (first | go_big_skip | (go_at_call 72;refine Within_any.mono ?_;rintro e w4 ⟨rfl,hx⟩;rw [q1.out];replace hX:=hX.trans hx;clear hx) | fail)
   go_ret
   exact z3oz
  have d0:decide (v < 0) = false:=decide_eq_false h0
  by_cases h2:1≤b∧b≤100
  ·have q2:=hide_ (wtn_yes h2)
   have hend:=hide_ (fun (y:Int) (k:Nat)=>pat_end (v:=v) (b:=b) (m:=m) (y:=y) (k:=k) h1 ⟨by omega,h2⟩)
   have hpos:=hide_ (grw_pos h2.1)
   obtain ⟨h1a,h1b⟩:=h1
   have hb0:=hide_ (show 0 < b∧b≤2000 by omega)
   have hv0:=hide_ (show 0≤v by omega)
   have hvI':=hide_ hvI
   clear h2 h0 hvI
   go_enter Tryz.func71,Tryz.ntmps71
   go_wp2_with (first | (go_at_call 72;refine Within_any.mono ?_;rintro e w4 ⟨rfl,hx⟩;(first | rw [q1.out] | rw [q2.out]);replace hX:=hX.trans hx;clear hx) | fail)
   clear d0
   go_loopw [0,7] (fun r y wr => ∃ (z x:Int) (k:Nat),r = .int .i64 z∧y = .int .i64 x∧Hid (z = v - k)∧Hid (x = grw b k)∧0≤z∧z≤9223372036854775807∧0 < x∧x≤2000∧Ext w wr) (fun r _ _=>(RowKit.intOf r).toNat)
   case atStart=>exact ⟨v,b,0,rfl,rfl,hide_ (by simp),hide_ (by rw [grw_zero]),hv0.out,hvI'.out,hb0.out.1,hb0.out.2,hX⟩
   case round =>
    clear hX
    obtain ⟨z,x,k,rfl,rfl,hz,hx,hz0,hzI,hx0,hx1,hX⟩:=hrel
    by_cases hc:0 < z
    ·have d1:decide (0 < z) = true:=decide_eq_true hc
     by_cases hc2:x < m
     ·have d2:decide (x < m) = true:=decide_eq_true hc2
      go_wp2
      go_roundw
      case rel=>exact ⟨z - 1,x * 2,k + 1,rfl,rfl,hide_ (by have:=hz.out;omega),hide_ (by rw [grw_succ, ← hx.out]),by omega,by omega,by omega,by omega,hX⟩
      case measure=>simp [RowKit.intOf];omega
     ·have d2:decide (x < m) = false:=decide_eq_false hc2
      obtain ⟨r,hr0⟩:∃ r,min x m = r:=⟨_,rfl⟩
      have hr:=hide_ hr0
      have hq:=hide_ (show pat v b m = r from by rw [← hr0];exact hend.out x k (by have:=hz.out;omega) hx.out (.inr (by omega)))
      clear hc hc2 hr0
      go_wp2_with ((first | ((with_reducible refine at_bi ?_);refine w_min _ _ r hr.out.symm rfl rfl rfl rfl ?_) | fail) <;> (try refine z0z ?_))
      go_ret
      exact z3oz
    ·have d1:decide (0 < z) = false:=decide_eq_false hc
     obtain ⟨r,hr0⟩:∃ r,min x m = r:=⟨_,rfl⟩
     have hr:=hide_ hr0
     have hq:=hide_ (show pat v b m = r from by rw [← hr0];exact hend.out x k (by have:=hz.out;omega) hx.out (.inl (by have:=hz.out;omega)))
     clear hc hr0
     go_wp2_with ((first | go_big_skip | ((with_reducible refine at_bi ?_);refine w_min _ _ r hr.out.symm rfl rfl rfl rfl ?_) | fail) <;> (try refine z0z ?_))
     go_ret
     exact z3oz
  ·have q2:=hide_ (wtn_no h2)
   have hq:=hide_ (pat_cap (v:=v) (b:=b) h1 fun h=>h2 h.2)
   clear h0 h1 h2 hvI
   go_enter Tryz.func71,Tryz.ntmps71
   go_wp2_with (first | (go_at_call 72;refine Within_any.mono ?_;rintro e w4 ⟨rfl,hx⟩;(first | rw [q1.out] | rw [q2.out]);replace hX:=hX.trans hx;clear hx) | fail)
   go_ret
   exact z3oz
 ·have q1:=hide_ (wtn_no h1)
  have hq:=hide_ (pat_bad (v:=v) (b:=b) h1)
  clear h1 hvI
  go_enter Tryz.func71,Tryz.ntmps71
  go_wp2_with (first | (go_at_call 72;refine Within_any.mono ?_;rintro e w4 ⟨rfl,hx⟩;rw [q1.out];replace hX:=hX.trans hx;clear hx) | fail)
  go_ret
  exact z3oz
def prV (p:Int × Int):Value := .agg #[.int .i64 p.1, .int .i64 p.2]
def PrM (D:DataW Value) (f:Int→Option (Int × Int)):Prop :=
 Maps.IsMap D∧(∀ j:Int,In64 j→Maps.has D (.int .i64 j) = (f j).isSome∧D.atKey (.int .i64 j) (.held (prV (0,0))) = .held (prV ((f j).getD (0,0))))∧∀ j,f j≠none→0≤j∧j≤1000
theorem PrM.nil:PrM (.map []) fun _=>none:=⟨Maps.isMap_empty,fun _ _=>⟨rfl,rfl⟩,fun _ h=>absurd rfl h⟩
theorem PrM.put {D:DataW Value} {f:Int→Option (Int × Int)} (h:PrM D f) (i:Int) (hi:0≤i∧i≤1000) (x:Int × Int):PrM (D.put (.int .i64 i) (.held (prV x))) fun j=>if j = i then some x else f j:=by
 refine ⟨h.1.put _ _,fun j hj => ?_,fun j hj => ?_⟩
 ·by_cases e:j = i
  ·subst e
   rw [Maps.has_put_same h.1 (by trivial),Maps.atKey_put_same h.1 (by trivial)]
   simp
  ·rw [Maps.has_put_other (litI_ne e),Maps.atKey_put_other (litI_ne e)]
   simp only [if_neg e]
   exact h.2.1 j hj
 ·simp only at hj
  split at hj
  ·rename_i e;rw [e];exact hi
  ·exact h.2.2 j hj
def SdM (D:DataW Value) (n:Nat) (f:Nat→Option Int):Prop:=InM D f∧∀ i,f i≠none→i < n
theorem own_tight {H:Type} {w:World} {k:TypeId} {R:Value→Option (DataW H × List MemPlace)} {b n:Nat} {D:DataW H} (h:w.ownsMap Tryz.prog k R b n D):w.ownsMap Tryz.prog k R b (Maps.size D) D:=by
 obtain ⟨es,clock,hb,F,hs,rfl⟩:=h
 exact ⟨es,clock,hb,F,by simp [Maps.size,length_sorted],rfl⟩
section
variable {P:Program} {ops:Array Oper} {a:Act} {w:World} {r:List Sp} {o:Oper}
theorem given1 {t j:Nat} {v:Value} {σ:Act} {w':World} (hg:Given a r σ w' [(t,some j)]) (hs:r.getD j (.val undef) = .val v) : σ.tmps.getD t undef = v:=by
 have h:=hg.1
 rw [hs] at h
 exact h
theorem given0 {t:Nat} {v:Value} {σ:Act} {w':World} (hg:Given a r σ w' [(t,none)]) (hv:a.tmps.getD t undef = v) : σ.tmps.getD t undef = v:=by
 have h:=hg.1
 rw [hv] at h
 exact h
theorem LinL.st {lo:Nat} {R:List Sp→Prop} {f i:Nat} (reads:List (Tmp × Option Nat)) {s:Sp} (h1:ops[lo + i]? = some o) (h4:opOk P ops a w r o reads s) (h5:LinL P ops a w lo R f (i + 1) (s :: r))
  (h2:(readsOkL ops lo i (conv i reads) && reads.all fun x=>match x.2 with | some k=>decide (k < i) | none=>true) = true:=by kernel_rfl):LinL P ops a w lo R (f + 1) i r:=LinL.step reads h1 h2 h4 h5
theorem opmv (v:Value) {t:Nat} (h3:o.guard = none:=by exact rfl) (h4:(o.op = .move (.tmp t)∨o.op = .assign (.tmp t)):=by first | exact .inl rfl | exact .inr rfl) (hv:a.tmps.getD t undef = v:=by exact rfl):opOk P ops a w r o [(t,none)] (.val v):=op_out t v h3 h4 hv
theorem opcp (s:Sp) {t j:Nat} (h3:o.guard = none:=by exact rfl) (h4:(o.op = .move (.tmp t)∨o.op = .assign (.tmp t)):=by first | exact .inl rfl | exact .inr rfl) (hs:r.getD j (.val undef) = s:=by exact rfl):opOk P ops a w r o [(t,some j)] s:=op_copy t j s h3 h4 hs
theorem opfb (i' off c g:Nat) {t j b:Nat} {ty:TypeId} (h3:o.guard = none:=by exact rfl) (h4:o.op = .fieldAddr ty (.tmp t) i':=by exact rfl) (hs:r.getD j (.val undef) = .val (.pointer (some ⟨g,b,none⟩)):=by exact rfl) (hc:c = b + off:=by exact rfl) (hB:fieldB P ty i' off = true:=by kernel_rfl) :
  opOk P ops a w r o [(t,some j)] (.val (.pointer (some ⟨g,c,none⟩))) :=
 op_runs h3 fun σ w' _ hg=>⟨_,runs_fieldB (ρ := σ.eval) (w:=w') hB hc (.tmp t) g h4 (given1 hg hs),rfl⟩
theorem opfo (i' off c g:Nat) {t b:Nat} {ty:TypeId} (h3:o.guard = none:=by exact rfl) (h4:o.op = .fieldAddr ty (.tmp t) i':=by exact rfl) (hv:a.tmps.getD t undef = .pointer (some ⟨g,b,none⟩):=by exact rfl) (hc:c = b + off:=by exact rfl) (hB:fieldB P ty i' off = true:=by kernel_rfl) :
  opOk P ops a w r o [(t,none)] (.val (.pointer (some ⟨g,c,none⟩))) :=
 op_runs h3 fun σ w' _ hg=>⟨_,runs_fieldB (ρ := σ.eval) (w:=w') hB hc (.tmp t) g h4 (given0 hg hv),rfl⟩
theorem opnl {A:Addr} {t j:Nat} (h3:o.guard = none:=by exact rfl) (h4:o.op = .nilCheck (.tmp t):=by exact rfl) (hs:r.getD j (.val undef) = .val (.pointer (some A)):=by exact rfl):opOk P ops a w r o [(t,some j)] (.val (.pointer (some A))) :=
 op_runs h3 fun σ w' _ hg=>⟨_,runs_nil (ρ := σ.eval) (w:=w') (.tmp t) h4 (given1 hg hs),rfl⟩
theorem opld (v:Value) {g k:Nat} {cs:List Value} (h:Fs w g cs) {t j:Nat} {ty:TypeId} (h3:o.guard = none:=by exact rfl) (h4:o.op = .load ty (.tmp t):=by exact rfl) (hs:r.getD j (.val undef) = .val (.pointer (some ⟨g,k,none⟩)):=by exact rfl) (hi:cs[k]? = some v:=by exact rfl) (ha:∀ w,(isAgg ty).run P w = .ok false w:=by exact agg_of (by kernel_rfl)) :
  opOk P ops a w r o [(t,some j)] (.val v) :=
 op_runs h3 fun σ w' hx hg=>⟨_,runs_fload (ρ := σ.eval) (w:=w') (.tmp t) h4 (given1 hg hs) (ha w') (h.ext hx) hi,rfl⟩
end
section
variable {ops:Array Oper} {a:Act} {w:World} {r:List Sp} {o:Oper}
theorem opmf (g k c:Nat) {t:Nat} (h3:o.guard = none:=by exact rfl) (h4:o.op = .fieldAddr 42 (.tmp t) k:=by exact rfl) (hv:a.tmps.getD t undef = .pointer (some ⟨g,0,none⟩):=by exact rfl) (hc:mOff k = c:=by exact rfl) (hk:k < 8:=by omega):opOk Tryz.prog ops a w r o [(t,none)] (.val (.pointer (some ⟨g,c,none⟩))):=by
 subst hc
 exact op_runs h3 fun σ w' _ hg=>⟨_,runs_mfield (ρ := σ.eval) (w:=w') (.tmp t) g k h4 (given0 hg hv) hk,rfl⟩
end
end Go.Proofs.YtdoeoncmhaihbaaGreat
namespace Go.Proofs.YtdoeoncmhaihbaaGreat
set_option maxRecDepth 100000
open Go.RowKit
section
variable {P:Program} {ops:Array Oper} {rest:List Oper} {a:Act} {Q:Exit→Act→World→Prop} {w:World} {d:Option Tmp} {ty t:TypeId} {pos:String} {af:Array Edge} {gd:Option (Nat × Bool)} {x y:Operand} {c:Bool}
theorem at_look (h:wpList P ops Q (⟨d, .lookup t x y c,ty,pos,af,gd⟩ :: rest) a w):wpList P ops Q (⟨d, .lookup t x y c,ty,pos,af,gd⟩ :: rest) a w:=h
theorem at_mkm {z:Option Operand} (h:wpList P ops Q (⟨d, .makeMap t z,ty,pos,af,gd⟩ :: rest) a w):wpList P ops Q (⟨d, .makeMap t z,ty,pos,af,gd⟩ :: rest) a w:=h
end
section
variable {ops:Array Oper} {rest:List Oper} {o:Oper} {a:Act} {Q:Exit→Act→World→Prop} {w:World}
theorem w_mkround {t:TypeId} (hgd:o.guard = none) (ho:o.op = Op.makeMap t none)
  (k:∀ g w',w.heap.size≤g→Ext w w'→w'.ownsMap Tryz.prog 106 tok g 0 (.map [])→wpList Tryz.prog ops Q rest (a.put o.dst (.map (some g))) w'):wpList Tryz.prog ops Q (o :: rest) a w:=by
 refine wpList_plain hgd fun K hK => ?_
 have hk:=hK _ _ (k w.heap.size (w.alloc (.map #[] 0)) (Nat.le_refl _) ((Ext.refl w).alloc _) (World.ownsMap_made w Tryz.prog 106 tok))
 unfold Oper.wp execOp
 simp [ho,run_makeMap,Result.andThen]
 exact hk
theorem w_mput {k e:TypeId} (K:Maps.Keyed Tryz.prog k) {t:TypeId} (ht:Tryz.prog.underlying t = some (.map k e)) (x y z:Operand) {g n:Nat} {D:DataW Value} {key val:Value} {kl:Go.Lit} (hgd:o.guard = none) (ho:o.op = Op.mapUpdate t x y z) (hd:o.dst = none)
  (hx:a.eval x = .map (some g)) (hy:a.eval y = key) (hz:a.eval z = val) (h:w.ownsMap Tryz.prog k tok g n D) (hn:n≤1000000) (hkey:keyOf Tryz.prog k key = some kl)
  (kk:∀ w',Mod (fun j=>j = g) w w'→w'.ownsMap Tryz.prog k tok g (n + 1) (D.put kl (.held val))→wpList Tryz.prog ops Q rest a w'):wpList Tryz.prog ops Q (o :: rest) a w:=by
 refine wpList_mapUpdate_own w hgd x y z t ho k e K ht tok g n D hx h (by unfold maxLen;omega) key val kl hy hz hkey (.held val) [] rfl ?_
 intro w' h1 h2
 rw [hd]
 exact kk w' ⟨h2.os,h2.tape,h2.output,h2.size,fun j hj hne=>h2.block j hj fun e=>hne (by injection e)⟩ h1
end
def Sp.nmap (lo:Nat):Sp := .any (fun v w => ∃ b,v = .map (some b)∧lo≤b∧b < w.heap.size∧w.ownsMap Tryz.prog 3 tok b 0 (.map [])) fun _ _ _ ⟨b,h1,h2,h3,h4⟩ he=>⟨b,h1,h2,Nat.lt_of_lt_of_le h3 he.size,ownsMap_ext h4 he⟩
theorem op_mkmap {ops:Array Oper} {a:Act} {w:World} {r:List Sp} {o:Oper} {t:TypeId} {lo:Nat} (hle:lo≤w.heap.size) (hgd:o.guard = none) (ho:o.op = .makeMap t none):opOk Tryz.prog ops a w r o [] (Sp.nmap lo):=by
 intro σ w' hx hg
 rw [if_pos (wanted_none hgd _)]
 unfold Oper.wp execOp
 simp [ho,run_makeMap,Result.andThen]
 exact ⟨_,rfl,(Ext.refl _).alloc _,_,rfl,Nat.le_trans hle hx.size,by simp,World.ownsMap_made w' Tryz.prog 3 tok⟩
theorem eqlSome (b:Nat) (w:World):(binOp .eql 65 (.map (some b)) (.map none)).run Tryz.prog w = .ok (.bool false) w:=by kernel_rfl
theorem eqlNil (w:World):(binOp .eql 65 (.map none) (.map none)).run Tryz.prog w = .ok (.bool true) w:=by kernel_rfl
theorem runs_mnil {o:Oper} {ρ:Operand→Value} {w:World} (x:Operand) {mb:Option Nat} (ho:o.op = .binOp .eql 65 x (.const (.map none)) 65) (hx : ρ x = .map mb) (hc : ρ (.const (.map none)) = .map none):Runs Tryz.prog o ρ w (.bool mb.isNone):=by
 unfold Runs execOp
 cases mb <;> simp [ho,hx,hc,eqGuard,eqlSome,eqlNil]
set_option maxHeartbeats 1600000 in
theorem TNew_any {w:World} {v:Value} {t:List Int} (h0:Ints w v t) (ht:StOk t) :
  Calls Tryz.prog 39 #[v] w fun e w' => ∃ p,e = .returned (.pointer (some ⟨p,0,none⟩))∧Tal (fun k=>w.heap.size≤k∧k < w'.heap.size) w' p t (fun _ _ _=>none) 0∧Ext w w':=by
 refine z2rz ?_
 have hr:=hide_ h0
 have hok:=hide_ ht
 have hl8:=hide_ (show t.length * 8≤140737488355328 from by have:=ht.2.1;omega)
 clear h0 ht
 go_enter Tryz.func39,Tryz.ntmps39
 go_wp2_with ((first | (go_at_call 20;refine (IClone_any hr.out hl8.out).mono ?_;rintro e w2 ⟨v2,rfl,o2,hX⟩;have hb2:=hide_ (show ∀ k,v2.ownBlock = some k→k < w2.heap.size from fun k hk=>(own_block_lt (g:=k) o2 hk).2)) | ((with_reducible refine at_mkm ?_);refine w_mkround rfl rfl ?_;intro g w3 hg hx m3;replace o2:=o2.ext hx;have hs2:=hX.size;replace hX:=hX.trans hx;clear hx) | ((with_reducible refine at_sbuild ?_);refine w_sbuild Tryz.stTal [v2, .map (some g)] rfl rfl rfl (by intro x hx;simp at hx;rcases hx with rfl|rfl;exact ⟨by decide,oneCell_cells (Sl.one' o2.ints)⟩;exact ⟨by decide,rfl⟩) ?_) | ((with_reducible refine at_box ?_);refine w_box _ [v2, .map (some g)] rfl rfl rfl rfl ?_;intro p w4 hp hx f4;replace o2:=o2.ext hx;have hg3:=m3.lt;replace m3:=ownsMap_ext m3 hx;have hs3:=hX.size;have hs4:=hx.size;replace hX:=hX.trans hx;clear hx) | fail) <;> (try refine z0z ?_))
 go_ret
 have hpl:=f4.lt
 refine Keep.intro ⟨p,rfl,⟨v2,g,_,fun _ _=>none,f4,o2.ints,fun k hk => ?_,⟨⟨by omega,hpl⟩,⟨by omega,by omega⟩,by omega⟩,m3,RndM.nil,fun _ _ _=>rfl,fun _ _ _ h=>(nomatch h),fun _ _ _ _ h=>(nomatch h),hok.out⟩,hX⟩
 have h1:=own_block_lt (g:=k) o2 hk
 have h2:=hb2.out k hk
 exact ⟨⟨h1.1,h1.2⟩,h1.2,by omega,by omega⟩
def CanB (k w x:Int):Prop:=(k = 4∨k = 5)∧(0≤w∧w≤1000) ∧ -1≤x
instance (k w x:Int):Decidable (CanB k w x):=by unfold CanB;infer_instance
theorem canB_eq (k w x:Int):decide (CanB k w x) = ((k == 4 || k == 5) && decide (0≤w) && decide (w≤1000) && decide (-1≤x)):=by
 rw [Bool.eq_iff_iff,decide_eq_true_iff]
 unfold CanB
 simp only [decide_eq_true_eq,Bool.and_eq_true,Bool.or_eq_true,beq_iff_eq]
 constructor
 ·rintro ⟨h1,⟨h2,h3⟩,h4⟩;exact ⟨⟨⟨h1,h2⟩,h3⟩,h4⟩
 ·rintro ⟨⟨⟨h1,h2⟩,h3⟩,h4⟩;exact ⟨h1,⟨h2,h3⟩,h4⟩
set_option maxHeartbeats 1600000 in
theorem canBe_any (k v x:Int) (w:World):Calls Tryz.prog 57 #[.int .i64 k, .int .i64 v, .int .i64 x] w fun e w'=>e = .returned (.bool (decide (CanB k v x)))∧w' = w:=by
 refine z2rz ?_
 rw [canB_eq]
 cases c1:(k == 4) <;> cases c2:(k == 5) <;> cases c3:decide (0≤v) <;> cases c4:decide (v≤1000) <;> cases c5:decide (-1≤x)
 all_goals (
  go_enter Tryz.func57,Tryz.ntmps57
  go_wp2
  go_ret
  exact Keep.intro ⟨rfl,rfl⟩)
set_option maxHeartbeats 1600000 in
theorem TVote_any {X:Nat→Prop} {w:World} {p:Nat} {t:List Int} {T:Tab} {N:Nat} {k v j:Int} (h0:Tal X w p t T N) (hk:In64 k) (hv:In64 v) (hj:In64 j) {r:Option Int} (hr:fat (T k v) j = r) :
  Calls Tryz.prog 37 #[.pointer (some ⟨p,0,none⟩), .int .i64 k, .int .i64 v, .int .i64 j] w fun e w'=>e = .returned (.tuple #[.int .i64 (r.getD 0), .bool r.isSome])∧w' = w:=by
 refine z2rz ?_
 obtain ⟨sv,g,D,m,h⟩:=h0
 have f0:=hide_ h.obj
 have hown:=hide_ h.own
 have hrnd:=hide_ h.rnd
 have hin:=hide_ (h.inn k v)
 have hk':=hide_ hk
 have hv':=hide_ hv
 have hj':=hide_ hj
 have hr':=hide_ hr
 clear h hk hv hj hr
 go_enter Tryz.func37,Tryz.ntmps37
 go_wp2_with ((first | ((with_reducible refine at_field ?_);refine w_field Tryz.stTal _ _ _ rfl rfl rfl (by omega) ?_;(try simp only [Act.put,List.setIfInBounds_toArray,List.set_cons_zero,List.set_cons_succ])) | ((with_reducible refine at_load ?_);refine w_fload _ rfl rfl rfl f0.out rfl (agg_of (by kernel_rfl)) ?_;(try simp only [Act.put,List.setIfInBounds_toArray,List.set_cons_zero,List.set_cons_succ])) | ((with_reducible refine at_sbuild ?_);refine w_sbuild Tryz.stRnd [.int .i64 k, .int .i64 v] rfl rfl rfl (by intro x hx;simp at hx;rcases hx with rfl|rfl;exact ⟨by decide,rfl⟩;exact ⟨by decide,rfl⟩) ?_;(try simp only [Act.put,List.setIfInBounds_toArray,List.set_cons_zero,List.set_cons_succ])) | ((with_reducible refine at_look ?_);refine w_rlook _ _ rfl rfl rfl rfl hk'.out hv'.out hown.out hrnd.out ?_;(try simp only [Act.put,List.setIfInBounds_toArray,List.set_cons_zero,List.set_cons_succ])) | ((with_reducible refine at_look ?_);refine w_ilook _ _ rfl rfl rfl rfl hj'.out hin.out hr'.out ?_;(try simp only [Act.put,List.setIfInBounds_toArray,List.set_cons_zero,List.set_cons_succ])) | fail) <;> (try refine z0z ?_))
 go_ret2
 exact Keep.intro ⟨rfl,rfl⟩
end Go.Proofs.YtdoeoncmhaihbaaGreat
namespace Go.Proofs.YtdoeoncmhaihbaaGreat
set_option maxRecDepth 100000
open Go.RowKit
def putT (T:Tab) (k v:Int) (i:Nat) (x:Int):Tab:=fun k' v' i'=>if k' = k∧v' = v∧i' = i then some x else T k' v' i'
def addT (n:Nat) (T:Tab) (k v j x:Int):Tab:=if CanB k v x∧(0≤j∧j < (n:Int))∧fat (T k v) j = none then putT T k v j.toNat x else T
def addOk (n:Nat) (T:Tab) (k v j x:Int):Bool:=decide (CanB k v x∧(0≤j∧j < (n:Int))∧fat (T k v) j = none)
set_option maxHeartbeats 6400000 in
theorem TAdd_any {X:Nat→Prop} {w:World} {p:Nat} {t:List Int} {T:Tab} {N:Nat} {k v j x:Int} (h0:Tal X w p t T N) (hN:N≤100000) (hk0:In64 k) (hv0:In64 v) (hj0:In64 j) (hx0:In64 x) :
  Calls Tryz.prog 41 #[.pointer (some ⟨p,0,none⟩), .int .i64 k, .int .i64 v, .int .i64 j, .int .i64 x] w fun e w' => ∃ X',e = .returned (.bool (addOk t.length T k v j x))∧Tal X' w' p t (addT t.length T k v j x) (N + 1)∧Upd X X' w w'∧(addOk t.length T k v j x = false→Ext w w'):=by
 refine z2rz ?_
 have hT:=hide_ h0
 have hk:=hide_ hk0
 have hv:=hide_ hv0
 have hj:=hide_ hj0
 obtain ⟨sv,g,D,m,h⟩:=h0
 have f0:=hide_ h.obj
 have hst:=hide_ h.stk
 have hX:=Ext.refl w
 have hlen:=h.st.2.1
 have hW0:=hide_ h
 have again:=hide_ (show Tal X w p t T (N + 1) from ⟨sv,g,D,m,⟨h.obj,h.stk,h.sto,h.xp,h.own.mono (by omega),h.rnd,fun k v=>(h.inn k v).more (by omega),h.sep,h.ok,h.st⟩⟩)
 by_cases hc:CanB k v x
 rotate_left
 ·have hcb:=hide_ (decide_eq_false hc)
  have ha:=hide_ (show addOk t.length T k v j x = false from decide_eq_false fun h=>hc h.1)
  have hb:=hide_ (show addT t.length T k v j x = T from if_neg fun h=>hc h.1)
  clear hc h hk0 hv0 hj0 hx0
  go_enter Tryz.func41,Tryz.ntmps41
  go_wp2_with (first | go_big_skip | (go_at_call 57;refine (canBe_any k v x _).mono ?_;rintro e w4 ⟨rfl,hw4⟩;replace hw4:=hw4.symm;subst hw4;rw [hcb.out]) | fail)
  go_ret
  exact Keep.intro ⟨X,by rw [ha.out];rfl,by rw [hb.out];exact again.out,Upd.refl _ _,fun _=>Ext.refl _⟩
 have hcb:=hide_ (decide_eq_true hc)
 by_cases hj1:j < 0
 ·have t1:decide (j < 0) = true:=decide_eq_true hj1
  have ha:=hide_ (show addOk t.length T k v j x = false from decide_eq_false fun h=>by have:=h.2.1;omega)
  have hb:=hide_ (show addT t.length T k v j x = T from if_neg fun h=>by have:=h.2.1;omega)
  clear hc h hk0 hv0 hj0 hx0 hj1
  go_enter Tryz.func41,Tryz.ntmps41
  go_wp2_with (first | go_big_skip | (go_at_call 57;refine (canBe_any k v x _).mono ?_;rintro e w4 ⟨rfl,hw4⟩;replace hw4:=hw4.symm;subst hw4;rw [hcb.out]) | fail)
  go_ret
  exact Keep.intro ⟨X,by rw [ha.out];rfl,by rw [hb.out];exact again.out,Upd.refl _ _,fun _=>Ext.refl _⟩
 have t1:decide (j < 0) = false:=decide_eq_false hj1
 by_cases hj2:(t.length:Int)≤j
 ·have t2:decide ((t.length:Int)≤j) = true:=decide_eq_true hj2
  have ha:=hide_ (show addOk t.length T k v j x = false from decide_eq_false fun h=>by have:=h.2.1;omega)
  have hb:=hide_ (show addT t.length T k v j x = T from if_neg fun h=>by have:=h.2.1;omega)
  clear hc h hk0 hv0 hj0 hx0 hj1 hj2
  go_enter Tryz.func41,Tryz.ntmps41
  go_wp2_with ((first | go_big_skip | (go_at_call 57;refine (canBe_any k v x _).mono ?_;rintro e w4 ⟨rfl,hw4⟩;replace hw4:=hw4.symm;subst hw4;rw [hcb.out]) | refine z28z ?_ | fail) <;> (try refine z0z ?_))
  go_ret
  exact Keep.intro ⟨X,by rw [ha.out];rfl,by rw [hb.out];exact again.out,Upd.ofExt hX X,fun _=>hX⟩
 have t2:decide ((t.length:Int)≤j) = false:=decide_eq_false hj2
 obtain ⟨i,hi⟩:∃ i:Nat,j = (i:Int):=⟨j.toNat,by omega⟩
 subst hi
 have t3:decide (t.length≤i) = false:=decide_eq_false (by omega)
 obtain ⟨r,hr0⟩:∃ r,fat (T k v) (i:Int) = r:=⟨_,rfl⟩
 have hr:=hide_ hr0
 cases r with
 | some y =>
  have ha:=hide_ (show addOk t.length T k v i x = false from decide_eq_false fun h=>by rw [hr0] at h;cases h.2.2)
  have hb:=hide_ (show addT t.length T k v i x = T from if_neg fun h=>by rw [hr0] at h;cases h.2.2)
  clear hc h hk0 hv0 hj0 hx0 hj1 hj2 hr0 t2
  go_enter Tryz.func41,Tryz.ntmps41
  go_wp2_with ((first | go_big_skip | (go_at_call 57;refine (canBe_any k v x _).mono ?_;rintro e w4 ⟨rfl,hw4⟩;replace hw4:=hw4.symm;subst hw4;rw [hcb.out]) | (go_at_call 37;refine (TVote_any ((hT.out).ext hX) hk.out hv.out hj.out hr.out).mono ?_;rintro e w5 ⟨rfl,hw5⟩;replace hw5:=hw5.symm;subst hw5) | refine z28z ?_ | fail) <;> (try refine z0z ?_))
  go_ret
  exact Keep.intro ⟨X,by rw [ha.out];rfl,by rw [hb.out];exact again.out.ext hX,Upd.ofExt hX X,fun _=>hX⟩
 | none =>
  have hcond:CanB k v x∧(0≤(i:Int)∧(i:Int) < (t.length:Int))∧fat (T k v) (i:Int) = none:=⟨hc,by omega,hr0⟩
  have ha:=hide_ (show addOk t.length T k v i x = true from decide_eq_true hcond)
  have hb:=hide_ (show addT t.length T k v i x = putT T k v i x from if_pos hcond)
  have hcan:=hide_ hc
  have hit:=hide_ (show i < t.length from by omega)
  have hx64:=hide_ (show -1≤x∧x≤9223372036854775807 from ⟨hc.2.2,hx0.2⟩)
  have hown:=hide_ h.own
  have hrnd:=hide_ h.rnd
  have hi64:=hide_ (show In64 (i:Int) from In64.nat (by omega))
  have hib:i≤7:=by omega
  clear hc h hk0 hv0 hj0 hx0 hj1 hj2 hr0 hcond hlen t2
  go_enter Tryz.func41,Tryz.ntmps41
  go_wp2_with ((first | go_big_skip | (go_at_call 57;refine (canBe_any k v x _).mono ?_;rintro e w4 ⟨rfl,hw4⟩;replace hw4:=hw4.symm;subst hw4;rw [hcb.out]) | (go_at_call 37;refine (TVote_any ((hT.out).ext hX) hk.out hv.out hj.out hr.out).mono ?_;rintro e w5 ⟨rfl,hw5⟩;replace hw5:=hw5.symm;subst hw5) | refine z28z ?_ | ((with_reducible refine at_sbuild ?_);refine w_sbuild Tryz.stRnd [.int .i64 k, .int .i64 v] rfl rfl rfl (by intro x hx;simp at hx;rcases hx with rfl|rfl;exact ⟨by decide,rfl⟩;exact ⟨by decide,rfl⟩) ?_) | ((with_reducible refine at_alloc ?_);refine w_alloc Tryz.stRnd rfl rfl ?_;intro g3 w6 hg30 hx f3;have hg3:=hide_ (Nat.le_trans hX.size hg30);replace hX:=hX.trans hx;clear hx hg30) | (refine z3ez ?_;refine w_astore Tryz.stRnd _ _ (us:=[.int .i64 k, .int .i64 v]) rfl rfl rfl rfl rfl f3 rfl rfl (by intro u hu;simp at hu;rcases hu with rfl|rfl <;> rfl) ?_;intro w7 hm7 f3';replace hX:=hm7.after hX (by intro j hj;subst hj;exact hg3.out);replace f3:=f3';clear f3' hm7) | fail) <;> (try refine z0z ?_))
  cases hm0:m k v with
  | none =>
   have hm:=hide_ hm0
   have hN1:=hide_ (show N≤1000000 from by omega)
   have hbne:=hide_ (show ∀ b,w.heap.size≤b→b≠g from fun b hb e=>by have:=hown.out.lt;omega)
   clear hm0
   refine zmz ?_;intro wd hxd;have F0:=f0.out.ext (hX.trans hxd);have F3:=f3.ext hxd;have O1:=hide_ (ownsMap_ext hown.out (hX.trans hxd))
   refine z1uz ?_
   intro wN hxN
   refine z15z ?_
   rw [hm.out]
   replace hX:=(hX.trans hxd).trans hxN
   replace f3:=(f3.ext hxd).ext hxN
   go_wp2
   refine zmz ?_;intro wd hxd;have F0:=f0.out.ext (hX.trans hxd);have F3:=f3.ext hxd
   refine Ph.gate 0 6 (by kernel_rfl) ?_
   refine z46z ?_
   refine LinL.step (s:=(.val (.pointer (some ⟨p,0,none⟩)))) [(51,some 0)] rfl (by kernel_rfl) (op_runs rfl fun σ w' hx hg=>⟨_,runs_nil (ρ := σ.eval) (w:=w') (.tmp 51) rfl hg.1,rfl⟩) ?_
   refine LinL.step (s:=(.val (.pointer (some ⟨p,1,none⟩)))) [(52,some 0)] rfl (by kernel_rfl) (op_runs rfl fun σ w' hx hg=>⟨_,runs_field (ρ := σ.eval) (w:=w') Tryz.stTal (.tmp 52) p 1 rfl hg.1 (by omega),rfl⟩) ?_
   refine LinL.step (s:=(.val (.map (some g)))) [(53,some 0)] rfl (by kernel_rfl) (op_runs rfl fun σ w' hx hg=>⟨_,runs_fload (ρ := σ.eval) (w:=w') (.tmp 53) rfl hg.1 (agg_of (by kernel_rfl) _) (F0.ext hx) rfl,rfl⟩) ?_
   refine LinL.step (s:=(.val (.agg #[.int .i64 k, .int .i64 v]))) [(13,none)] rfl (by kernel_rfl) (op_runs rfl fun σ w' hx hg=>⟨_,runs_aload (ρ := σ.eval) (w:=w') Tryz.stRnd (.tmp 13) rfl hg.1 (F3.ext hx) rfl,rfl⟩) ?_
   refine LinL.step (s:=(Sp.nmap w.heap.size)) [] rfl (by kernel_rfl) (op_mkmap (Nat.le_trans hX.size hxd.size) rfl rfl) ?_
   intro wN hxN
   simp only [Fin',Sp.nmap,List.reverse_cons,List.reverse_nil,List.nil_append,List.cons_append,List.drop_zero,List.take_succ_cons,List.take_zero]
   intro q56 hq56
   refine z0z ?_
   obtain ⟨b,rfl,hb1,hb2,hb3⟩:=hq56
   replace hX:=(hX.trans hxd).trans hxN;replace f3:=(f3.ext hxd).ext hxN
   refine zgz ?_
   refine w_mput Tryz.keyR Tryz.underlying102 _ _ _ rfl rfl rfl rfl rfl rfl (ownsMap_ext hown.out hX) hN1.out (rkL_of hk.out hv.out) ?_;intro w8 hm8 o8
   show Ph Tryz.prog _ _ 7 _ _
   refine Ph.rest 7 0 (by kernel_rfl) ?_
   intro wM hxM
   refine zuz ?_
   go_wp2
   obtain ⟨D1,m1,hmb0,hW⟩:∃ D1 m1,m1 k v = some b∧TalW (fun j=>X j∨j = b) wM p sv g D1 m1 t T (N + 1):=⟨_,_,if_pos ⟨rfl,rfl⟩,(hW0.out.begin hm.out hcan.out.1 hcan.out.2.1 hX hb1 hb2 hm8 (ownsMap_mod hb3 hm8 (hbne.out b hb1)) o8).ext hxM⟩
   have U:=hide_ (show Upd X (fun j=>X j∨j = b) w wM from (show Upd X (fun j=>X j∨j = b) w w8 from ⟨(hX.mod X).trans hm8 (fun j _ e=>by have e':j = g:=e;rw [e'];exact hW0.out.xp.2.1),fun j hj=>hj.imp id fun e=>by have e':j = b:=e;rw [e'];exact ⟨hb1,Nat.lt_of_lt_of_le hb2 hm8.size⟩⟩).trans (Upd.ofExt hxM _))
   have hmb:=hide_ hmb0
   have hmap0:=ownsMap_ext (ownsMap_mod hb3 hm8 (hbne.out b hb1)) hxM
   have hin:=hide_ (show InM (.map []) (T k v) from by
    have:=hW0.out.inn k v
    rw [hm.out] at this
    have e:T k v = fun _=>none:=funext this
    rw [e];exact InM.nil)
   replace f3:=(f3.mod hm8 (hbne.out g3 hg3.out)).ext hxM
   clear hmb0 o8 hm8 hX hb3 hxM
   have hmap:=hide_ hmap0
   have hnn:=hide_ (show (0:Nat)≤1000000 from by omega)
   refine zmz ?_;intro wd hxd;have F0:=hW.obj.ext hxd;have F3:=f3.ext hxd;have O1:=hide_ (ownsMap_ext hW.own hxd);have R1:=hide_ hW.rnd
   refine z16z ?_
   intro wN hxN
   refine z15z ?_
   replace hW:=(hW.ext hxd).ext hxN
   refine zgz ?_
   refine z65z ?_;intro w9 hm9 o9
   show Ph Tryz.prog _ _ 9 _ _
   refine Ph.rest 9 0 (by kernel_rfl) ?_
   intro wM hxM
   refine zuz ?_
   go_wp2
   go_ret
   refine Keep.intro ⟨_,by rw [ha.out];rfl,⟨sv,g,D1,m1,by rw [hb.out];exact (hW.vote hmb.out hcan.out.1 hcan.out.2.1 hit.out hx64.out hm9 (N':=N + 1) (n:=0 + 1) (by omega) (by omega) o9 hin.out).ext hxM⟩, ?_,fun h=>by rw [ha.out] at h;cases h⟩
   exact U.out.trans ((show Upd _ _ _ w9 from ⟨((hxd.trans hxN).mod _).trans hm9 (fun j _ e=>.inr e),fun j hj=>.inl hj⟩).trans (Upd.ofExt hxM _))
  | some b =>
   have hm:=hide_ hm0
   have hmb:=hide_ hm0
   clear hm0
   refine zmz ?_;intro wd hxd;have F0:=f0.out.ext (hX.trans hxd);have F3:=f3.ext hxd;have O1:=hide_ (ownsMap_ext hown.out (hX.trans hxd))
   refine z1uz ?_
   intro wN hxN
   refine z15z ?_
   rw [hm.out]
   replace hX:=(hX.trans hxd).trans hxN
   replace f3:=(f3.ext hxd).ext hxN
   have hW:=hW0.out.ext hX
   go_wp2
   obtain ⟨n,D',hn0,hmap0,hin⟩:∃ n D',n≤N∧wN.ownsMap Tryz.prog 3 tok b n D'∧InM D' (T k v):=by
    have:=hW.inn k v
    rw [hmb.out] at this
    exact this
   have hmap:=hide_ hmap0
   have hnn:=hide_ (show n≤1000000 from by omega)
   have U:=hide_ (show Upd X X w wN from Upd.ofExt hX X)
   have hXb:=hide_ (hW.sep k v b hmb.out).1
   clear hmap0
   refine zmz ?_;intro wd hxd;have F0:=hW.obj.ext hxd;have F3:=f3.ext hxd;have O1:=hide_ (ownsMap_ext hW.own hxd);have R1:=hide_ hW.rnd
   refine z16z ?_
   intro wN hxN
   refine z15z ?_
   replace hW:=(hW.ext hxd).ext hxN
   refine zgz ?_
   refine z65z ?_;intro w9 hm9 o9
   show Ph Tryz.prog _ _ 9 _ _
   refine Ph.rest 9 0 (by kernel_rfl) ?_
   intro wM hxM
   refine zuz ?_
   go_wp2
   go_ret
   refine Keep.intro ⟨_,by rw [ha.out];rfl,⟨sv,g,D,m,by rw [hb.out];exact (hW.vote hmb.out hcan.out.1 hcan.out.2.1 hit.out hx64.out hm9 (N':=N + 1) (n:=n + 1) (by omega) (by omega) o9 hin).ext hxM⟩, ?_,fun h=>by rw [ha.out] at h;cases h⟩
   exact U.out.trans ((show Upd _ _ _ w9 from ⟨((hxd.trans hxN).mod _).trans hm9 (fun j _ e=>by have e':j = b:=e;rw [e'];exact hXb.out),fun j hj=>.inl hj⟩).trans (Upd.ofExt hxM _))
end Go.Proofs.YtdoeoncmhaihbaaGreat
namespace Go.Proofs.YtdoeoncmhaihbaaGreat
set_option maxRecDepth 100000
open Go.RowKit Go.Shelf
def Tryz.keysIL_ren:Go.Shelf.Ren:=⟨fun | 7=>97 | 10=>105 | n=>n,fun | 23=>65 | 26=>3 | 3=>3 | 28=>121 | 0=>0 | 27=>120 | 33=>73 | 4=>4 | n=>n,fun | n=>n⟩
theorem Tryz.keysIL:Go.Proofs.SlLaysZI.n7 Tryz.prog Tryz.keysIL_ren:={
 mixed:=by kernel_rfl,
 f7:=⟨Tryz.f97.name,by decide,Tryz.func97.trans (congrArg some (by kernel_rfl))⟩,
 f10:=⟨Tryz.f105.name,by decide,Tryz.func105.trans (congrArg some (by kernel_rfl))⟩,
 t0:=Tryz.underlying0,
 a0:=Tryz.isAgg0,
 z0:=Tryz.sizeOf0,
 v0:=Tryz.zeroValue0,
 t4:=Tryz.underlying4,
 a4:=Tryz.isAgg4,
 z4:=Tryz.sizeOf4,
 v4:=Tryz.zeroValue4,
 t23:=Tryz.underlying65,
 a23:=Tryz.isAgg65,
 z23:=Tryz.sizeOf65,
 v23:=Tryz.zeroValue65,
 t26:=Tryz.underlying3,
 a26:=Tryz.isAgg3,
 z26:=Tryz.sizeOf3,
 v26:=Tryz.zeroValue3,
 t27:=Tryz.underlying120,
 a27:=Tryz.isAgg120,
 z27:=Tryz.sizeOf120,
 v27:=Tryz.zeroValue120,
 t28:=Tryz.underlying121,
 a28:=Tryz.isAgg121,
 z28:=Tryz.sizeOf121,
 v28:=Tryz.zeroValue121,
 t33:=Tryz.underlying73,
 a33:=Tryz.isAgg73,
 z33:=Tryz.sizeOf73,
 v33:=Tryz.zeroValue73 }
def Tryz.keysUL_ren:Go.Shelf.Ren:=⟨fun | 7=>81 | 10=>98 | n=>n,fun | 23=>124 | 26=>3 | 3=>127 | 28=>121 | 0=>0 | 27=>120 | 33=>73 | 4=>4 | n=>n,fun | n=>n⟩
theorem Tryz.keysUL:Go.Proofs.SlLaysZI.n7 Tryz.prog Tryz.keysUL_ren:={
 mixed:=by kernel_rfl,
 f7:=⟨Tryz.f81.name,by decide,Tryz.func81.trans (congrArg some (by kernel_rfl))⟩,
 f10:=⟨Tryz.f98.name,by decide,Tryz.func98.trans (congrArg some (by kernel_rfl))⟩,
 t0:=Tryz.underlying0,
 a0:=Tryz.isAgg0,
 z0:=Tryz.sizeOf0,
 v0:=Tryz.zeroValue0,
 t4:=Tryz.underlying4,
 a4:=Tryz.isAgg4,
 z4:=Tryz.sizeOf4,
 v4:=Tryz.zeroValue4,
 t23:=Tryz.underlying124,
 a23:=Tryz.isAgg124,
 z23:=Tryz.sizeOf124,
 v23:=Tryz.zeroValue124,
 t26:=Tryz.underlying3,
 a26:=Tryz.isAgg3,
 z26:=Tryz.sizeOf3,
 v26:=Tryz.zeroValue3,
 t27:=Tryz.underlying120,
 a27:=Tryz.isAgg120,
 z27:=Tryz.sizeOf120,
 v27:=Tryz.zeroValue120,
 t28:=Tryz.underlying121,
 a28:=Tryz.isAgg121,
 z28:=Tryz.sizeOf121,
 v28:=Tryz.zeroValue121,
 t33:=Tryz.underlying73,
 a33:=Tryz.isAgg73,
 z33:=Tryz.sizeOf73,
 v33:=Tryz.zeroValue73 }
end Go.Proofs.YtdoeoncmhaihbaaGreat
namespace Go.Proofs.YtdoeoncmhaihbaaGreat
set_option maxRecDepth 100000
open Go.RowKit Go.Sort Go.Lib
theorem rise_picks (p:Nat→Bool):∀ n,Rise (picks p n)
 | 0=>List.Pairwise.nil
 | n + 1=>by
  rw [picks_succ]
  unfold Rise
  rw [List.pairwise_append]
  refine ⟨rise_picks p n,by split <;> simp,fun x hx y hy => ?_⟩
  have:=picks_wf p n x hx
  split at hy
  ·rw [List.mem_singleton] at hy;omega
  ·cases hy
theorem mem_picks {p:Nat→Bool} {n:Nat} {x:Int}:x∈picks p n ↔ ∃ i:Nat,i < n∧p i = true∧x = (i:Int):=by
 simp only [picks,List.mem_map,List.mem_filter,List.mem_range]
 constructor
 ·rintro ⟨i,⟨h1,h2⟩,rfl⟩;exact ⟨i,h1,h2,rfl⟩
 ·rintro ⟨i,h1,h2,rfl⟩;exact ⟨i,⟨h1,h2⟩,rfl⟩
section
variable {F:Nat→Prop} {w w':World} {P:Program} {k:TypeId} {R:Value→Option (DataW Value × List MemPlace)} {b r n cnt:Nat} {D:DataW Value} {left:Go.Lit→Bool}
theorem rngs_mod (h:w.ranges P k R b r n D left cnt) (hm:Mod F w w') (hb:¬ F b) (hr:¬ F r):w'.ranges P k R b r n D left cnt:=by
 have h1:=h.owns.lt
 have h2:=h.lt
 obtain ⟨es,clock,since,seen,c0,e1,G,hs,hD,e2,rest⟩:=h
 exact ⟨es,clock,since,seen,c0,(hm.block b h1 hb).trans e1,G,hs,hD,(hm.block r h2 hr).trans e2,rest⟩
theorem rngs_ext (h:w.ranges P k R b r n D left cnt) (he:Ext w w'):w'.ranges P k R b r n D left cnt:=rngs_mod h (he.mod fun _=>False) id id
end
def EntryIs (w:World) (r:Nat) (key v:Value):Prop:=(Instr.entry (.pointer (some ⟨r,0,none⟩))).run Tryz.prog w = .ok (.tuple #[key,v]) w
def NilIter (w:World) (r:Nat):Prop := ∃ a s c,w.heap[r]? = some (.mapIter none a s c)
section
variable {ops:Array Oper} {rest:List Oper} {o:Oper} {a:Act} {Q:Exit→Act→World→Prop} {w:World} {k e t:TypeId} {b r n cnt:Nat} {D:DataW Value} {left:Go.Lit→Bool}
theorem w_rangeT (K:Maps.Keyed Tryz.prog k) (ht:Tryz.prog.underlying t = some (.map k e)) (x:Operand) (hgd:o.guard = none) (ho:o.op = Op.range t x) (hx:a.eval x = .map (some b)) (h:w.ownsMap Tryz.prog k tok b n D)
  (kk:∀ r w',w.heap.size≤r→Ext w w'→w'.ranges Tryz.prog k tok b r n D (Maps.has D) (Maps.size D)→wpList Tryz.prog ops Q rest (a.put o.dst (.pointer (some ⟨r,0,none⟩))) w'):wpList Tryz.prog ops Q (o :: rest) a w:=by
 refine wpList_range_own w hgd x t ho k e K ht tok b n D hx h ?_
 intro w' h1 h2 h3
 exact kk _ w' (Nat.le_refl _) ⟨h2.os,h2.tape,h2.output,h2.size,fun j hj=>h2.block j hj (by simp)⟩ h1
theorem w_nextT (K:Maps.Keyed Tryz.prog k) (x:Operand) (hgd:o.guard = none) (ho:o.op = Op.next x false) (hx:a.eval x = .pointer (some ⟨r,0,none⟩)) (h:w.ranges Tryz.prog k tok b r n D left cnt)
  (h0:(∀ kl,left kl = false)→wpList Tryz.prog ops Q rest (a.put o.dst (.tuple #[.bool false])) w)
  (h1:∀ key v kl w' cnt',keyOf Tryz.prog k key = some kl→left kl = true→(∀ zd,D.atKey kl zd = .held v)→w'.ranges Tryz.prog k tok b r n D (fun z=>left z && !z.sameKey kl) cnt'→cnt' < cnt→Mod (fun j=>j = r) w w'→EntryIs w' r key v →
   wpList Tryz.prog ops Q rest (a.put o.dst (.tuple #[.bool true,key,v])) w'):wpList Tryz.prog ops Q (o :: rest) a w:=by
 refine wpList_plain hgd fun K' hK' => ?_
 unfold Oper.wp
 rcases h.next K o.type with ⟨_,hl,hrun⟩ | ⟨key,v,kl,y,w',cnt',hkey,hlk,hv,hat,hrun,hrg,hlt,hgr,hsz,hen⟩
 ·simp [execOp,ho,hx,hrun,Result.andThen]
  exact hK' _ _ (h0 hl)
 ·simp [execOp,ho,hx,hrun,Result.andThen]
  refine hK' _ _ (h1 key v kl w' cnt' hkey hlk (fun zd => ?_) hrg hlt ⟨hgr.os,hgr.tape,hgr.output,hgr.size,fun j hj hne=>hgr.block j hj fun e=>hne (by injection e)⟩ hen)
  rw [hat zd]
  have:some (DataW.held v,([]:List MemPlace)) = some y:=hv
  injection this with this
  rw [← this]
theorem w_entryT (x:Operand) {key v:Value} (hgd:o.guard = none) (ho:o.op = Op.entry x) (hx:a.eval x = .pointer (some ⟨r,0,none⟩)) (h:EntryIs w r key v) (kk:wpList Tryz.prog ops Q rest (a.put o.dst (.tuple #[key,v])) w):wpList Tryz.prog ops Q (o :: rest) a w:=by
 refine wpList_runs hgd (v := .tuple #[key,v]) ?_ kk
 unfold EntryIs at h
 unfold Runs execOp
 simp [ho,hx,h]
theorem w_rangeN (ht:Tryz.prog.underlying t = some (.map k e)) (x:Operand) (hgd:o.guard = none) (ho:o.op = Op.range t x) (hx:a.eval x = .map none)
  (kk:∀ r w',Ext w w'→NilIter w' r→wpList Tryz.prog ops Q rest (a.put o.dst (.pointer (some ⟨r,0,none⟩))) w'):wpList Tryz.prog ops Q (o :: rest) a w:=by
 refine wpList_plain hgd fun K' hK' => ?_
 have hk:=hK' _ _ (kk w.heap.size (w.alloc (.mapIter none 0 #[] 0)) ((Ext.refl w).alloc _) ⟨0, #[],0,heap_alloc_new w _⟩)
 unfold Oper.wp
 simp [execOp,ho,hx,run_range_nilMap w t k e ht,Result.andThen]
 exact hk
theorem w_nextN (x:Operand) (hgd:o.guard = none) (ho:o.op = Op.next x false) (hx:a.eval x = .pointer (some ⟨r,0,none⟩)) (h:NilIter w r) (kk:wpList Tryz.prog ops Q rest (a.put o.dst (.tuple #[.bool false])) w):wpList Tryz.prog ops Q (o :: rest) a w:=by
 refine wpList_runs hgd (v := .tuple #[.bool false]) ?_ kk
 obtain ⟨a',s,c,hh⟩:=h
 unfold Runs execOp
 simp [ho,hx,Instr.next,getObj,Sem.run,hh,Result.andThen]
end
section
variable {P:Program} {ops:Array Oper} {rest:List Oper} {a:Act} {Q:Exit→Act→World→Prop} {w:World} {d:Option Tmp} {ty t:TypeId} {pos:String} {af:Array Edge} {gd:Option (Nat × Bool)} {x:Operand} {c:Bool}
theorem at_rng (h:wpList P ops Q (⟨d, .range t x,ty,pos,af,gd⟩ :: rest) a w):wpList P ops Q (⟨d, .range t x,ty,pos,af,gd⟩ :: rest) a w:=h
theorem at_nxt (h:wpList P ops Q (⟨d, .next x c,ty,pos,af,gd⟩ :: rest) a w):wpList P ops Q (⟨d, .next x c,ty,pos,af,gd⟩ :: rest) a w:=h
theorem at_ent (h:wpList P ops Q (⟨d, .entry x,ty,pos,af,gd⟩ :: rest) a w):wpList P ops Q (⟨d, .entry x,ty,pos,af,gd⟩ :: rest) a w:=h
end
theorem has_in64 {w:World} {R:Value→Option (DataW Value × List MemPlace)} {b n:Nat} {D:DataW Value} (h:w.ownsMap Tryz.prog 3 R b n D) {x:Int} (hx:Maps.has D (.int .i64 x) = true):In64 x:=by
 obtain ⟨es,clock,hb,G,hs,rfl⟩:=h
 rw [Maps.has_eq,List.any_eq_true] at hx
 obtain ⟨p,hp,hs⟩:=hx
 obtain ⟨e,he,rfl⟩:=List.mem_map.1 (mem_sorted.1 hp)
 obtain ⟨y,hy⟩:=G.reads e he
 rw [WideElems.rg_of hy] at hs
 have hk:=WideElems.rd_key hy
 have e1:=WideAt.sameKey_eq hs
 rw [e1] at hk
 obtain ⟨x',_,e2,hw⟩:=Maps.keyOf_int_inv Tryz.underlying3 hk
 injection e2 with _ e2
 subst e2
 exact wf_in hw
theorem KeysI_any (mb:Option Nat) (w:World):Calls Tryz.prog 97 #[.map mb] w fun e w' =>
  ∃ gb,e = .returned (.func (.func 105) #[] #[.pointer (some ⟨gb,0,none⟩)])∧Fs w' gb [.map mb]∧w.heap.size≤gb∧Ext w w':=by
 refine ((callsIn_wide (n:=5)).1 (AnyZI.keys_in Tryz.keysIL Fence.wide 5 trivial rfl mb w)).mono ?_
 rintro e w' ⟨rfl,rfl⟩
 exact ⟨_,rfl,Fs.alloc w _ _,Nat.le_refl _,(Ext.refl w).alloc _⟩
theorem SortedI_any {w:World} {gb g n:Nat} {D:DataW Value} (hf:Fs w gb [.map (some g)]) (hown:w.ownsMap Tryz.prog 3 tok g n D) (hn:n≤20000) :
  Calls Tryz.prog 75 #[.func (.func 105) #[] #[.pointer (some ⟨gb,0,none⟩)]] w fun e w' =>
   ∃ (v:Value) (l:List Int),e = .returned v∧OwnI w.heap.size w' v l∧Rise l∧(∀ x,x∈l ↔ Maps.has D (.int .i64 x) = true)∧Ext w w':=by
 refine (callsIn_wide (n:=5)).1 ?_
 have hmax:Maps.size D≤20000:=Nat.le_trans hown.size_le hn
 have hseq:=(SeqStops.gives (AnyZI.keys_stops (ρ:=Tryz.keysIL_ren) { Tryz.keysIL with } Fence.wide (5 - 1 - 1 - 1) trivial rfl (by omega) gb g n D w hf.lt (hf.cell (i:=0) rfl) hown))
 have cS:=AnyZI.sorted_in Tryz.sortedL Fence.wide 5 trivial trivial trivial trivial rfl (by omega) (Tryz.sortsL _) (enters_of Tryz.func87 (by kernel_rfl) rfl) 105 #[.pointer (some ⟨gb,0,none⟩)] trivial (enters_of Tryz.func105 (by kernel_rfl) rfl) _ _ (by unfold maxLen;omega) (by omega) _ hseq
 refine CallsIn.mono cS ?_
 rintro e w' ⟨v,ss,rfl,⟨hS,hmem⟩,hrow,_,hb⟩
 have hnd:ss.Nodup:=by
  obtain ⟨es,hD,hap,hky⟩:=hown.entries Tryz.keyI
  refine hS.nodup_iff.2 ?_
  subst hD
  have:∀ p∈es, ∃ x,p.1 = .int .i64 x:=fun p hp=>by
   obtain ⟨es',clock,hb',G,hs',hD'⟩:=hown
   injection hD' with hD'
   subst hD'
   obtain ⟨e,he,rfl⟩:=List.mem_map.1 (mem_sorted.1 hp)
   obtain ⟨y,hy⟩:=G.reads e he
   rw [WideElems.rg_of hy]
   obtain ⟨x',_,e2,_⟩:=Maps.keyOf_int_inv Tryz.underlying3 (WideElems.rd_key hy)
   exact ⟨x',e2⟩
  show (es.map fun p:Go.Lit × DataW Value=>_root_.Go.intOf p.1).Nodup
  clear hown hS hmem cS hseq hky hmax
  induction es with
  | nil=>exact List.nodup_nil
  | cons p es ih =>
   obtain ⟨h1,h2⟩:=List.pairwise_cons.1 hap
   rw [List.map_cons,List.nodup_cons]
   refine ⟨fun hc => ?_,ih h2 fun q hq=>this q (List.mem_cons_of_mem _ hq)⟩
   obtain ⟨q,hq,he⟩:=List.mem_map.1 hc
   obtain ⟨x,hx⟩:=this p (List.mem_cons_self ..)
   obtain ⟨y,hy⟩:=this q (List.mem_cons_of_mem _ hq)
   rw [hx,hy] at he
   have:y = x:=he
   exact h1 q hq (by rw [hx,hy,this])
 refine ⟨v,ss.mergeSort fun x y=>decide (x≤y),rfl,OwnI.of_row ?_, ?_,fun x => ?_,hb⟩
 ·rw [List.length_mergeSort];exact hrow
 ·rw [sort_rise hnd];exact rise_rise ss
 ·rw [(List.mergeSort_perm ss _).mem_iff];exact hmem x
theorem KeysU_any (mb:Option Nat) (w:World):Calls Tryz.prog 81 #[.map mb] w fun e w' =>
  ∃ gb,e = .returned (.func (.func 98) #[] #[.pointer (some ⟨gb,0,none⟩)])∧Fs w' gb [.map mb]∧w.heap.size≤gb∧Ext w w':=by
 refine ((callsIn_wide (n:=5)).1 (AnyZI.keys_in Tryz.keysUL Fence.wide 5 trivial rfl mb w)).mono ?_
 rintro e w' ⟨rfl,rfl⟩
 exact ⟨_,rfl,Fs.alloc w _ _,Nat.le_refl _,(Ext.refl w).alloc _⟩
theorem SortedU_any {w:World} {gb g n:Nat} {D:DataW Value} (hf:Fs w gb [.map (some g)]) (hown:w.ownsMap Tryz.prog 3 tok g n D) (hn:n≤20000) :
  Calls Tryz.prog 75 #[.func (.func 98) #[] #[.pointer (some ⟨gb,0,none⟩)]] w fun e w' =>
   ∃ (v:Value) (l:List Int),e = .returned v∧OwnI w.heap.size w' v l∧Rise l∧(∀ x,x∈l ↔ Maps.has D (.int .i64 x) = true)∧Ext w w':=by
 refine (callsIn_wide (n:=5)).1 ?_
 have hmax:Maps.size D≤20000:=Nat.le_trans hown.size_le hn
 have hseq:=(SeqStops.gives (AnyZI.keys_stops (ρ:=Tryz.keysUL_ren) { Tryz.keysUL with } Fence.wide (5 - 1 - 1 - 1) trivial rfl (by omega) gb g n D w hf.lt (hf.cell (i:=0) rfl) hown))
 have cS:=AnyZI.sorted_in Tryz.sortedL Fence.wide 5 trivial trivial trivial trivial rfl (by omega) (Tryz.sortsL _) (enters_of Tryz.func87 (by kernel_rfl) rfl) 98 #[.pointer (some ⟨gb,0,none⟩)] trivial (enters_of Tryz.func98 (by kernel_rfl) rfl) _ _ (by unfold maxLen;omega) (by omega) _ hseq
 refine CallsIn.mono cS ?_
 rintro e w' ⟨v,ss,rfl,⟨hS,hmem⟩,hrow,_,hb⟩
 have hnd:ss.Nodup:=by
  obtain ⟨es,hD,hap,hky⟩:=hown.entries Tryz.keyI
  refine hS.nodup_iff.2 ?_
  subst hD
  have:∀ p∈es, ∃ x,p.1 = .int .i64 x:=fun p hp=>by
   obtain ⟨es',clock,hb',G,hs',hD'⟩:=hown
   injection hD' with hD'
   subst hD'
   obtain ⟨e,he,rfl⟩:=List.mem_map.1 (mem_sorted.1 hp)
   obtain ⟨y,hy⟩:=G.reads e he
   rw [WideElems.rg_of hy]
   obtain ⟨x',_,e2,_⟩:=Maps.keyOf_int_inv Tryz.underlying3 (WideElems.rd_key hy)
   exact ⟨x',e2⟩
  show (es.map fun p:Go.Lit × DataW Value=>_root_.Go.intOf p.1).Nodup
  clear hown hS hmem cS hseq hky hmax
  induction es with
  | nil=>exact List.nodup_nil
  | cons p es ih =>
   obtain ⟨h1,h2⟩:=List.pairwise_cons.1 hap
   rw [List.map_cons,List.nodup_cons]
   refine ⟨fun hc => ?_,ih h2 fun q hq=>this q (List.mem_cons_of_mem _ hq)⟩
   obtain ⟨q,hq,he⟩:=List.mem_map.1 hc
   obtain ⟨x,hx⟩:=this p (List.mem_cons_self ..)
   obtain ⟨y,hy⟩:=this q (List.mem_cons_of_mem _ hq)
   rw [hx,hy] at he
   have:y = x:=he
   exact h1 q hq (by rw [hx,hy,this])
 refine ⟨v,ss.mergeSort fun x y=>decide (x≤y),rfl,OwnI.of_row ?_, ?_,fun x => ?_,hb⟩
 ·rw [List.length_mergeSort];exact hrow
 ·rw [sort_rise hnd];exact rise_rise ss
 ·rw [(List.mergeSort_perm ss _).mem_iff];exact hmem x
theorem SortedN_any {w:World} {gb:Nat} (hf:Fs w gb [.map none]) :
  Calls Tryz.prog 75 #[.func (.func 105) #[] #[.pointer (some ⟨gb,0,none⟩)]] w fun e w' =>
   ∃ (v:Value),e = .returned v∧OwnI w.heap.size w' v []∧Ext w w':=by
 refine (callsIn_wide (n:=5)).1 ?_
 have hseq:=AnyZI.keys_gives_nil (ρ:=Tryz.keysIL_ren) { Tryz.keysIL with } Fence.wide (5 - 1 - 1 - 1) trivial rfl gb w hf.lt (hf.cell (i:=0) rfl)
 have cS:=AnyZI.sorted_in Tryz.sortedL Fence.wide 5 trivial trivial trivial trivial rfl (by omega) (Tryz.sortsL _) (enters_of Tryz.func87 (by kernel_rfl) rfl) 105 #[.pointer (some ⟨gb,0,none⟩)] trivial (enters_of Tryz.func105 (by kernel_rfl) rfl) _ _ (by unfold maxLen;omega) (by omega) _ hseq
 refine CallsIn.mono cS ?_
 rintro e w' ⟨v,ss,rfl,rfl,hrow,_,hb⟩
 exact ⟨v,rfl,OwnI.of_row (show w'.ownsRow w.heap.size 3 1 v _ _ from (by simpa using (show w'.ownsRow w.heap.size 3 1 v _ _ from hrow))),hb⟩
theorem SortedR_any {w:World} {gb N:Nat} {mb:Option Nat} {f:Nat→Option Int} (hf:Fs w gb [.map mb]) (h:InR N w mb f) (hn:N≤2100) {L:List Int} (hL:Rise L) (hmem:∀ x,x∈L ↔ In64 x∧(fat f x).isSome = true) :
  Calls Tryz.prog 75 #[.func (.func 105) #[] #[.pointer (some ⟨gb,0,none⟩)]] w fun e w' =>
   ∃ (v:Value),e = .returned v∧OwnI w.heap.size w' v L∧Ext w w':=by
 cases mb with
 | none =>
  refine (SortedN_any hf).mono ?_
  rintro e w' ⟨v,rfl,o,hx⟩
  have:L = []:=List.eq_nil_iff_forall_not_mem.2 fun x hx=>by
   have h1:=((hmem x).1 hx).2
   have:fat f x = none:=by unfold fat;split;rfl;exact h _
   rw [this] at h1;cases h1
  subst this
  exact ⟨v,rfl,o,hx⟩
 | some b =>
  obtain ⟨n,D,h0,h1,h2⟩:=h
  refine (SortedI_any hf h1 (by omega)).mono ?_
  rintro e w' ⟨v,l,rfl,o,hr,hm,hx⟩
  have:l = L:=Rise.eq hr hL fun x=>by
   rw [hm,hmem]
   constructor
   ·intro hh
    have hi:=has_in64 h1 hh
    exact ⟨hi,by rw [← (h2.2 x hi).1];exact hh⟩
   ·rintro ⟨hi,hh⟩
    rw [(h2.2 x hi).1];exact hh
  subst this
  exact ⟨v,rfl,o,hx⟩
theorem fat_some {T:Tab} {n:Nat} (h:TabOk T n) {k v x y:Int} (hx:fat (T k v) x = some y):∃ i:Nat,x = (i:Int)∧i < n∧T k v i = some y:=by
 unfold fat at hx
 split at hx
 ·cases hx
 ·have:=h _ _ _ _ hx
  exact ⟨x.toNat,by omega,this.2.2.1,hx⟩
theorem mem_all {T:Tab} {n:Nat} (h:TabOk T n) (hn:n≤7) {k v:Int} (x:Int):x∈T.all n k v ↔ In64 x∧(fat (T k v) x).isSome = true:=by
 unfold Tab.all
 rw [mem_picks]
 constructor
 ·rintro ⟨i,hi,hp,rfl⟩
  exact ⟨In64.nat (by omega),by rw [fat_nat];exact hp⟩
 ·rintro ⟨_,hs⟩
  obtain ⟨y,hy⟩:=Option.isSome_iff_exists.1 hs
  obtain ⟨i,rfl,hi,ht⟩:=fat_some h hy
  exact ⟨i,hi,by unfold Tab.any;rw [ht];rfl,rfl⟩
set_option maxHeartbeats 1600000 in
theorem TAll_any {X:Nat→Prop} {w:World} {p:Nat} {t:List Int} {T:Tab} {N:Nat} {k v:Int} (h0:Tal X w p t T N) (hN:N≤2100) (hk0:In64 k) (hv0:In64 v) {L:List Int} (hL0:T.all t.length k v = L) :
  Calls Tryz.prog 80 #[.pointer (some ⟨p,0,none⟩), .int .i64 k, .int .i64 v] w fun e w' => ∃ u,e = .returned u∧OwnI w.heap.size w' u L∧Ext w w':=by
 refine z2rz ?_
 obtain ⟨sv,g,D,m,h⟩:=h0
 have f0:=hide_ h.obj
 have hown:=hide_ h.own
 have hrnd:=hide_ h.rnd
 have hin:=hide_ (h.inn k v)
 have hk:=hide_ hk0
 have hv:=hide_ hv0
 have hL:=hide_ (show Rise L∧∀ x,x∈L ↔ In64 x∧(fat (T k v) x).isSome = true from by
  subst hL0
  exact ⟨rise_picks _ _,mem_all h.ok h.st.2.1⟩)
 have hX:=Ext.refl w
 clear h hk0 hv0 hL0
 go_enter Tryz.func80,Tryz.ntmps80
 go_wp2_with ((first | (go_at_call 97;refine (KeysI_any _ _).mono ?_;rintro e w2 ⟨gb,rfl,fb,hgb,hx⟩;replace hX:=hX.trans hx;clear hx) | (go_at_call 75;refine (SortedR_any fb (hin.out.ext hX) hN hL.out.1 hL.out.2).mono ?_;rintro e w3 ⟨u,rfl,o3,hx⟩;have hs3:=hX.size;replace hX:=hX.trans hx;clear hx) | refine z1yz ?_ | ((with_reducible refine at_look ?_);refine w_rlook _ _ rfl rfl rfl rfl hk.out hv.out (ownsMap_ext hown.out hX) hrnd.out ?_) | fail) <;> (try refine z0z ?_))
 go_ret
 exact Keep.intro ⟨u,rfl,o3.mono hs3,hX⟩
end Go.Proofs.YtdoeoncmhaihbaaGreat
namespace Go.Proofs.YtdoeoncmhaihbaaGreat
set_option maxHeartbeats 3200000
set_option maxRecDepth 100000
open Go.RowKit Go.Sort Go.Lib
theorem OwnI.own_lt {base:Nat} {w:World} {v:Value} {l:List Int} (h:OwnI base w v l) {k:Nat} (hk:v.ownBlock = some k):base≤k∧k < w.heap.size:=own_block_lt (g:=k) h hk
def Came (f:Nat→Option Int) (x:Int) (left:Go.Lit→Bool) (l:List Int):Prop :=
 l.Nodup∧∀ i,i∈l ↔ In64 i∧fat f i = some x∧left (.int .i64 i) = false
theorem Came.start {D:DataW Value} {f:Nat→Option Int} {x:Int} (h:InM D f):Came f x (Maps.has D) [] :=
 ⟨List.nodup_nil,fun i=>⟨(fun h=>nomatch h),fun ⟨h1,h2,h3⟩=>by rw [(h.2 i h1).1,h2] at h3;cases h3⟩⟩
theorem Came.yes {f:Nat→Option Int} {x i:Int} {left:Go.Lit→Bool} {l:List Int} (h:Came f x left l) (hi:In64 i) (hl:left (.int .i64 i) = true) (hx:fat f i = some x):Came f x (fun z=>left z && !z.sameKey (.int .i64 i)) (l ++ [i]):=by
 have hni:i ∉ l:=fun hc=>by have:=((h.2 i).1 hc).2.2;rw [hl] at this;cases this
 refine ⟨List.nodup_append.2 ⟨h.1,by simp,fun a ha b hb=>by rw [List.mem_singleton] at hb;subst hb;exact fun e=>hni (e ▸ ha)⟩,fun j => ?_⟩
 rw [List.mem_append,h.2,List.mem_singleton]
 simp only [sameKey_int,Bool.and_eq_false_iff,Bool.not_eq_false',decide_eq_true_eq]
 constructor
 ·rintro (⟨h1,h2,h3⟩ | rfl)
  ·exact ⟨h1,h2, .inl h3⟩
  ·exact ⟨hi,hx, .inr rfl⟩
 ·rintro ⟨h1,h2,h3 | h3⟩
  ·exact .inl ⟨h1,h2,h3⟩
  ·exact .inr h3
theorem Came.no {f:Nat→Option Int} {x y i:Int} {left:Go.Lit→Bool} {l:List Int} (h:Came f x left l) (hy:fat f i = some y) (hx:y≠x):Came f x (fun z=>left z && !z.sameKey (.int .i64 i)) l:=by
 refine ⟨h.1,fun j => ?_⟩
 rw [h.2]
 simp only [sameKey_int,Bool.and_eq_false_iff,Bool.not_eq_false',decide_eq_true_eq]
 constructor
 ·rintro ⟨h1,h2,h3⟩;exact ⟨h1,h2, .inl h3⟩
 ·rintro ⟨h1,h2,h3 | h3⟩
  ·exact ⟨h1,h2,h3⟩
  ·subst h3;rw [hy] at h2;injection h2 with h2;exact absurd h2 hx
theorem entry_int {D:DataW Value} {f:Nat→Option Int} (h:InM D f) {key v:Value} {kl:Go.Lit} (hkey:keyOf Tryz.prog 3 key = some kl) (hat:∀ zd,D.atKey kl zd = .held v) :
  ∃ i x,key = .int .i64 i∧kl = .int .i64 i∧v = .int .i64 x∧In64 i∧fat f i = some x:=by
 obtain ⟨i,rfl,rfl,hw⟩:=Maps.keyOf_int_inv Tryz.underlying3 hkey
 have hi:=wf_in hw
 have h1:=(h.2 i hi).1
 rw [Maps.has_true_of_atKey hat] at h1
 obtain ⟨x,hx⟩:=Option.isSome_iff_exists.1 h1.symm
 have h2:=(h.2 i hi).2
 rw [hat,hx] at h2
 injection h2 with h2
 exact ⟨i,x,rfl,rfl,h2,hi,hx⟩
theorem came_all {T:Tab} {n:Nat} (hT:TabOk T n) (hn:n≤7) {k v x:Int} {left:Go.Lit→Bool} {l:List Int} (h:Came (T k v) x left l) (hl:∀ kl,left kl = false):(l.mergeSort fun x y=>decide (x≤y)) = T.who n k v x:=by
 rw [sort_rise h.1]
 refine Rise.eq (rise_rise l) (rise_picks _ _) fun i => ?_
 show _ ↔ i∈picks (T.has k v x) n
 rw [mem_rise,h.2,mem_picks]
 constructor
 ·rintro ⟨_,h2,_⟩
  obtain ⟨j,rfl,hj,ht⟩:=fat_some hT h2
  exact ⟨j,hj,Tab.has_iff.2 ht,rfl⟩
 ·rintro ⟨j,hj,ht,rfl⟩
  exact ⟨In64.nat (by omega),by rw [fat_nat];exact Tab.has_iff.1 ht,hl _⟩
theorem who_none {T:Tab} {n:Nat} {k v x:Int} (h:∀ i,T k v i = none):T.who n k v x = []:=by
 refine List.eq_nil_iff_forall_not_mem.2 fun i hi => ?_
 obtain ⟨j,_,ht,_⟩:=mem_picks.1 hi
 rw [Tab.has_iff,h j] at ht;cases ht
theorem TWho_any {X:Nat→Prop} {w:World} {p:Nat} {t:List Int} {T:Tab} {N:Nat} {k v x:Int} (h0:Tal X w p t T N) (hN:N≤2100) (hk0:In64 k) (hv0:In64 v) {L:List Int} (hL0:T.who t.length k v x = L) :
  Calls Tryz.prog 90 #[.pointer (some ⟨p,0,none⟩), .int .i64 k, .int .i64 v, .int .i64 x] w fun e w' => ∃ u,e = .returned u∧OwnI w.heap.size w' u L∧Ext w w':=by
 refine z2rz ?_
 obtain ⟨sv,g,D0,m,h⟩:=h0
 have f0:=hide_ h.obj
 have hown:=hide_ h.own
 have hrnd:=hide_ h.rnd
 have hk:=hide_ hk0
 have hv:=hide_ hv0
 have hX:=Ext.refl w
 have hin0:=h.inn k v
 have hok:=hide_ h.ok
 have hlen:=hide_ h.st.2.1
 cases hm0:m k v with
 | none =>
  rw [hm0] at hin0
  have hmb:=hide_ hm0
  have hL:=hide_ (show L = [] from by rw [← hL0];exact who_none hin0)
  clear h hk0 hv0 hL0 hin0 hm0
  go_enter Tryz.func90,Tryz.ntmps90
  go_wp2_with ((first | ((with_reducible refine at_rng ?_);refine w_rangeN Tryz.underlying65 _ rfl rfl rfl ?_;intro r w2 hx hni;replace hX:=hX.trans hx;clear hx) | refine z1yz ?_ | ((with_reducible refine at_look ?_);refine w_rlook _ _ rfl rfl rfl rfl hk.out hv.out (ownsMap_ext hown.out hX) hrnd.out ?_;rw [hmb.out]) | fail) <;> (try refine z0z ?_))
  go_loopw [9] (fun s wr=>s = .slice none 0 0∧NilIter wr r∧Ext w wr) (fun _ _=>0)
  case atStart=>exact ⟨rfl,hni,hX⟩
  case round =>
   clear hX hni
   obtain ⟨rfl,hni,hX⟩:=hrel
   have on:=OwnI.nil w.heap.size wr
   go_wp2_with ((first | ((with_reducible refine at_nxt ?_);refine w_nextN _ rfl rfl rfl hni ?_) | refine z5bz ?_ | (go_at_call 87;refine (Sort_own on (by simp)).mono ?_;rintro e w3 ⟨rfl,o3,hm3⟩;replace hX:=hm3.after hX (by intro i hi;cases hi)) | fail) <;> (try refine z0z ?_))
   go_ret
   exact Keep.intro ⟨_,rfl,by rw [hL.out];simpa using o3,hX⟩
 | some b =>
  rw [hm0] at hin0
  have hmb:=hide_ hm0
  obtain ⟨n,D,hn,hmap0,hinm0⟩:=hin0
  have hmap:=hide_ hmap0
  have hinm:=hide_ hinm0
  have hL:=hide_ (fun l left (hc:Came (T k v) x left l) hl=>(came_all h.ok h.st.2.1 hc hl).trans hL0)
  have hb:=hide_ (show b < w.heap.size from hmap0.lt)
  clear h hk0 hv0 hL0 hm0 hmap0 hinm0
  go_enter Tryz.func90,Tryz.ntmps90
  go_wp2_with ((first | ((with_reducible refine at_rng ?_);refine w_rangeT Tryz.keyI Tryz.underlying65 _ rfl rfl rfl (ownsMap_ext hmap.out hX) ?_;intro r w2 hr0 hx hrg;have hr:=hide_ (Nat.le_trans hX.size hr0);have hsz:=hide_ (ownsMap_ext hmap.out hX).size_le;replace hX:=hX.trans hx;clear hx hr0) | refine z1yz ?_ | ((with_reducible refine at_look ?_);refine w_rlook _ _ rfl rfl rfl rfl hk.out hv.out (ownsMap_ext hown.out hX) hrnd.out ?_;rw [hmb.out]) | fail) <;> (try refine z0z ?_))
  go_loopw [9] (fun s wr => ∃ l left cnt,OwnI w.heap.size wr s l∧wr.ranges Tryz.prog 3 tok b r n D left cnt∧Hid (Came (T k v) x left l)∧Hid (l.length + cnt≤N)∧Hid (∀ j,s.ownBlock = some j→j≠r∧j≠b)∧Ext w wr) (fun _ wr=>wr.rangeLeft b r)
  case atStart=>exact ⟨[],_,_,OwnI.nil _ _,hrg,Came.start hinm.out,by have:=hsz.out;show 0 + _≤N;omega,(fun j hj=>nomatch hj),hX⟩
  case round =>
   clear hX hrg
   obtain ⟨l,left,cnt,hl,hrg,hcame,hcnt,hsep,hX⟩:=hrel
   have hlf:=hide_ (show l.length≤2100 from by have:=hcnt.out;omega)
   have hmeas:=hide_ hrg.left_eq
   go_wp2_with (first | (with_reducible refine at_nxt ?_;refine w_nextT Tryz.keyI _ rfl rfl rfl hrg ?_ ?_) | fail)
   ·intro hdone
    have hfin:=hide_ (hL.out l left hcame.out hdone)
    go_wp2_with ((first | refine z5bz ?_ | (go_at_call 87;refine (Sort_own hl hlf.out).mono ?_;rintro e w3 ⟨rfl,o3,hm3⟩;replace hX:=hm3.after hX (fun i hi=>(hl.own_lt hi).1);rw [hfin.out] at o3) | fail) <;> (try refine z0z ?_))
    go_ret
    exact Keep.intro ⟨_,rfl,o3,hX⟩
   ·intro key vv kl w3 cnt' hkey hlk hat hrg2 hlt hm3 hen
    obtain ⟨i,y,rfl,rfl,rfl,hi64,hfi⟩:=entry_int hinm.out hkey hat
    have hl3:OwnI w.heap.size w3 u9 l:=own_mod hl hm3 (fun j hj e=>(hsep.out j hj).1 e)
    replace hX:=hm3.after hX (by intro j hj;have e:j = r:=hj;rw [e];exact hr.out)
    have hen':=hide_ hen
    have hlt':=hide_ hlt
    have hbig:=hide_ (show (l.length + 1) * 8≤140737488355328 from by have:=hlf.out;omega)
    cases c1:(y == x)
    ·have hc2:=hide_ (hcame.out.no hfi (by intro e;rw [e] at c1;simp at c1))
     clear hl hrg hcame hkey hlk hat hm3 hen hfi hlt
     go_wp2_with ((first | refine z6wz ?_ | fail) <;> (try refine z0z ?_))
     go_roundw
     case rel=>exact ⟨l,_,cnt',hl3,hrg2,hc2,by have:=hcnt.out;have:=hlt'.out;show _≤N;omega,hsep,hX⟩
     case measure=>rw [hrg2.left_eq,hmeas.out];exact hlt'.out
    ·have hc2:=hide_ (hcame.out.yes hi64 hlk ((show y = x from by simpa using c1) ▸ hfi))
     clear hl hrg hcame hkey hlk hat hm3 hen hfi hlt
     replace hl:=hl3
     replace hrg:=hrg2
     clear hl3 hrg2
     go_wp2_with ((first | refine z6wz ?_ | ((with_reducible refine at_lit ?_);refine w_new Tryz.elI (i64s [i]) rfl rfl rfl (i64s_cells _) rfl (by omega) ?_;intro v5 w5 hx5 o5;replace o5:OwnI _ w5 v5 [i]:=o5;replace hl:=hl.ext hx5;replace hrg:=rngs_ext hrg hx5;have hs5:=hide_ (Nat.le_trans (show w.heap.size≤w3.heap.size from hX.size) hx5.size);replace hX:=hX.trans hx5;clear hx5) | (refine z62z ?_;intro v9 w9 o9 hb9 hg9 hg9') | fail) <;> (try refine z0z ?_))
     have hrb:=hide_ (show r < w5.heap.size∧b < w5.heap.size from ⟨hrg.lt,hrg.owns.lt⟩)
     have hrg9:w9.ranges Tryz.prog 3 tok b r n D _ cnt':=rngs_mod hrg (Mod.grown hg9) (fun e=>(hsep.out b e).2 rfl) (fun e=>(hsep.out r e).1 rfl)
     go_roundw
     case rel =>
      refine ⟨_,_,cnt',o9,hrg9,hc2,by have:=hcnt.out;have:=hlt'.out;show _≤N;simp;omega,fun j hj => ?_,hX.trans' hb9⟩
      rcases hg9' with e | e
      ·rw [e] at hj;exact hsep.out j hj
      ·rw [e] at hj;injection hj with hj;have:=hrb.out;omega
     case measure=>rw [hrg9.left_eq,hmeas.out];exact hlt'.out
def CameV (m:Int→Int→Option Nat) (left:Go.Lit→Bool) (l:List Int):Prop :=
 ∀ x,x∈l ↔ ∃ k,m k x≠none∧left (rkL k x) = false
theorem CameV.start {D:DataW Value} {m:Int→Int→Option Nat} (h:RndM D m):CameV m (Maps.has D) [] :=
 fun x=>⟨(fun h=>nomatch h),fun ⟨k,h1,h2⟩=>by
  have hi:=h.in64 h1
  rw [(h.get k x hi.1 hi.2).1] at h2
  cases hm:m k x with
  | none=>exact absurd hm h1
  | some b=>rw [hm] at h2;cases h2⟩
theorem CameV.step {D:DataW Value} {m:Int→Int→Option Nat} (hR:RndM D m) {left:Go.Lit→Bool} {l:List Int} (h:CameV m left l) {k v:Int} (hm:m k v≠none):CameV m (fun z=>left z && !z.sameKey (rkL k v)) (l ++ [v]):=by
 intro x
 rw [List.mem_append,h,List.mem_singleton]
 simp only [Bool.and_eq_false_iff,Bool.not_eq_false']
 constructor
 ·rintro (⟨k',h1,h2⟩ | rfl)
  ·exact ⟨k',h1, .inl h2⟩
  ·exact ⟨k,hm, .inr (WideAt.sameKey_self (rkL_key _ _))⟩
 ·rintro ⟨k',h1,h2 | h2⟩
  ·exact .inl ⟨k',h1,h2⟩
  ·have hi:=hR.in64 hm
   have hi':=hR.in64 h1
   exact .inr (rkL_inj hi'.1 hi'.2 hi.1 hi.2 (WideAt.sameKey_eq h2)).2
structure Vws (T:Tab) (N:Nat) (V:List Int):Prop where
 rise:Rise V
 all:∀ k w i,T k w i≠none→w∈V
 fit:∀ w∈V,0≤w∧w≤1000
 len:V.length≤N
def vwsOf (m:Int→Int→Option Nat):List Int:=picks (fun v=>(m 4 v).isSome || (m 5 v).isSome) 1001
theorem mem_vws {D:DataW Value} {m:Int→Int→Option Nat} (hR:RndM D m) {v:Int}:v∈vwsOf m ↔ ∃ k,m k v≠none:=by
 unfold vwsOf
 rw [mem_picks]
 constructor
 ·rintro ⟨i,_,h,rfl⟩
  rcases Bool.or_eq_true_iff.1 h with h | h
  ·exact ⟨4,fun e=>by rw [e] at h;cases h⟩
  ·exact ⟨5,fun e=>by rw [e] at h;cases h⟩
 ·rintro ⟨k,h⟩
  obtain ⟨hk,h1,h2⟩:=hR.dom k v h
  have e:v = ((v.toNat:Nat):Int):=by omega
  refine ⟨v.toNat,by omega, ?_,e⟩
  rw [← e,Bool.or_eq_true_iff]
  have hs:(m k v).isSome = true:=by cases hm:m k v with | none=>exact absurd hm h | some b=>rfl
  rcases hk with rfl|rfl
  ·exact .inl hs
  ·exact .inr hs
theorem TalW.vws {X:Nat→Prop} {w:World} {p g N:Nat} {sv:Value} {D:DataW Value} {m:Int→Int→Option Nat} {t:List Int} {T:Tab} (h:TalW X w p sv g D m t T N):Vws T 1001 (vwsOf m):=by
 refine ⟨rise_picks _ _,fun k v i hT => ?_,fun v hv => ?_,picks_len _ _⟩
 ·rw [mem_vws h.rnd]
  refine ⟨k,fun hm => ?_⟩
  have:=h.inn k v
  rw [hm] at this
  exact hT (this i)
 ·rw [mem_vws h.rnd] at hv
  obtain ⟨k,hm⟩:=hv
  exact (h.rnd.dom k v hm).2
theorem CameV.all {D:DataW Value} {m:Int→Int→Option Nat} (hR:RndM D m) {left:Go.Lit→Bool} {l:List Int} (hc:CameV m left l) (hl:∀ kl,left kl = false):rise l = vwsOf m :=
 Rise.eq (rise_rise l) (rise_picks _ _) fun v=>by
  show _ ↔ v∈vwsOf m
  rw [mem_rise,hc,mem_vws hR]
  exact ⟨fun ⟨k,h1,_⟩=>⟨k,h1⟩,fun ⟨k,h1⟩=>⟨k,h1,hl _⟩⟩
theorem views_any {X:Nat→Prop} {w:World} {p g N:Nat} {sv:Value} {D:DataW Value} {m:Int→Int→Option Nat} {t:List Int} {T:Tab} (h:TalW X w p sv g D m t T N) (hN:N≤2100) :
  Calls Tryz.prog 73 #[.pointer (some ⟨p,0,none⟩)] w fun e w' => ∃ u,e = .returned u∧OwnI w.heap.size w' u (vwsOf m)∧Ext w w':=by
 refine z2rz ?_
 have f0:=hide_ h.obj
 have hown:=hide_ h.own
 have hrnd:=hide_ h.rnd
 have hX:=Ext.refl w
 have hfin:=hide_ (fun left l (hc:CameV m left l) hl=>hc.all h.rnd hl)
 have hg:=hide_ (show g < w.heap.size from h.own.lt)
 clear h
 go_enter Tryz.func73,Tryz.ntmps73
 go_wp2_with ((first | ((with_reducible refine at_rng ?_);refine w_rangeT Tryz.keyR Tryz.underlying102 _ rfl rfl rfl (ownsMap_ext hown.out hX) ?_;intro r w2 hr0 hx hrg;have hr:=hide_ (Nat.le_trans hX.size hr0);have hsz:=hide_ (ownsMap_ext hown.out hX).size_le;replace hX:=hX.trans hx;clear hx hr0) | ((with_reducible refine at_field ?_);refine w_field Tryz.stTal _ _ _ rfl rfl rfl (by omega) ?_) | ((with_reducible refine at_load ?_);refine w_fload _ rfl rfl rfl (f0.out.ext hX) rfl (agg_of (by kernel_rfl)) ?_) | fail) <;> (try refine z0z ?_))
 go_loopw [3] (fun s wr => ∃ l left cnt,OwnI w.heap.size wr s l∧wr.ranges Tryz.prog 106 tok g r N D left cnt∧Hid (CameV m left l)∧Hid (l.length + cnt≤N)∧Hid (∀ j,s.ownBlock = some j→j≠r∧j≠g)∧Ext w wr) (fun _ wr=>wr.rangeLeft g r)
 case atStart=>exact ⟨[],_,_,OwnI.nil _ _,hrg,CameV.start hrnd.out,by have:=hsz.out;show 0 + _≤N;omega,(fun j hj=>nomatch hj),hX⟩
 case round =>
  clear hX hrg
  obtain ⟨l,left,cnt,hl,hrg,hcame,hcnt,hsep,hX⟩:=hrel
  have hlf:=hide_ (show l.length≤2100 from by have:=hcnt.out;omega)
  have hmeas:=hide_ hrg.left_eq
  go_wp2_with (first | (with_reducible refine at_nxt ?_;refine w_nextT Tryz.keyR _ rfl rfl rfl hrg ?_ ?_) | fail)
  ·intro hdone
   have hV:=hide_ (hfin.out left l hcame.out hdone)
   have hcs:=hide_ (compact_sort l)
   go_wp2_with ((first | refine z5bz ?_ | (go_at_call 87;refine (Sort_own hl hlf.out).mono ?_;rintro e w3 ⟨rfl,o3,hm3⟩;replace hX:=hm3.after hX (fun i hi=>(hl.own_lt hi).1)) | (go_at_call 88;refine (Compact_own o3).mono ?_;rintro e w4 ⟨u,rfl,o4,hm4⟩;rw [hcs.out,hV.out] at o4;replace hX:=hm4.after hX (fun i hi=>(o3.own_lt hi).1)) | fail) <;> (try refine z0z ?_))
   go_ret
   exact Keep.intro ⟨u,rfl,o4,hX⟩
  ·intro key vv kl w3 cnt' hkey hlk hat hrg2 hlt hm3 hen
   obtain ⟨k,v,rfl,rfl,hk64,hv64⟩:=keyR_inv hkey
   have hkv:m k v≠none:=by
    have h1:=(hrnd.out.get k v hk64 hv64).1
    rw [Maps.has_true_of_atKey hat] at h1
    intro e;rw [e] at h1;cases h1
   have hl3:OwnI w.heap.size w3 u3 l:=own_mod hl hm3 (fun j hj e=>(hsep.out j hj).1 e)
   replace hX:=hm3.after hX (by intro j hj;have e:j = r:=hj;rw [e];exact hr.out)
   have hen':=hide_ hen
   have hlt':=hide_ hlt
   have hbig:=hide_ (show (l.length + 1) * 8≤140737488355328 from by have:=hlf.out;omega)
   have hc2:=hide_ (hcame.out.step hrnd.out hkv)
   clear hl hrg hcame hkey hlk hat hm3 hen hlt hkv
   replace hl:=hl3
   replace hrg:=hrg2
   clear hl3 hrg2
   go_wp2_with ((first | refine z6wz ?_ | ((with_reducible refine at_alloc ?_);refine w_alloc Tryz.stRnd rfl rfl ?_;intro g4 w4 hg40 hx4 f4;have hg4:=hide_ hg40;clear hg40) | (refine z3ez ?_;refine w_astore Tryz.stRnd _ _ (us:=[.int .i64 k, .int .i64 v]) rfl rfl rfl rfl rfl f4 rfl rfl (by intro u hu;simp at hu;rcases hu with rfl|rfl <;> rfl) ?_;intro w5 hm5 f4';replace f4:=f4';have hx:=hm5.after hx4 (by intro j hj;have e:j = g4:=hj;rw [e];exact hg4.out);replace hl:=hl.ext hx;replace hrg:=rngs_ext hrg hx;replace hX:=hX.trans hx;clear hx hx4 hm5 f4') | ((with_reducible refine at_field ?_);refine w_field Tryz.stRnd _ _ _ rfl rfl rfl (by omega) ?_) | ((with_reducible refine at_load ?_);refine w_fload _ rfl rfl rfl f4 rfl (agg_of (by kernel_rfl)) ?_) | ((with_reducible refine at_lit ?_);refine w_new Tryz.elI (i64s [v]) rfl rfl rfl (i64s_cells _) rfl (by omega) ?_;intro v5 w6 hx5 o5;replace o5:OwnI _ w6 v5 [v]:=o5;have hs5:=hide_ (Nat.le_trans (show w.heap.size≤w5.heap.size from hX.size) hx5.size);replace hl:=hl.ext hx5;replace hrg:=rngs_ext hrg hx5;replace hX:=hX.trans hx5;clear hx5) | (refine z62z ?_;intro v9 w9 o9 hb9 hg9 hg9') | fail) <;> (try refine z0z ?_))
   have hrb:=hide_ (show r < w6.heap.size∧g < w6.heap.size from ⟨hrg.lt,hrg.owns.lt⟩)
   have hrg9:w9.ranges Tryz.prog 106 tok g r N D _ cnt':=rngs_mod hrg (Mod.grown hg9) (fun e=>(hsep.out g e).2 rfl) (fun e=>(hsep.out r e).1 rfl)
   go_roundw
   case rel =>
    refine ⟨_,_,cnt',o9,hrg9,hc2,by have:=hcnt.out;have:=hlt'.out;show _≤N;simp;omega,fun j hj => ?_,hX.trans' hb9⟩
    rcases hg9' with e | e
    ·rw [e] at hj;exact hsep.out j hj
    ·rw [e] at hj;injection hj with hj;have:=hrb.out;omega
   case measure=>rw [hrg9.left_eq,hmeas.out];exact hlt'.out
end Go.Proofs.YtdoeoncmhaihbaaGreat
