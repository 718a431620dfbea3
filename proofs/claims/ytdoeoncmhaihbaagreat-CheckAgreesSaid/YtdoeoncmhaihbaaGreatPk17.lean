/- All that can be done, the first thing that can be each time. · A message comes; a tick comes. · One that is behind is told; a message comes. -/
import Derived.Test.YtdoeoncmhaihbaaGreatChkT6
import Derived.ScopeJumps
import Derived.WalkMore
namespace Go.Proofs.YtdoeoncmhaihbaaGreat
set_option maxHeartbeats 3200000
set_option maxRecDepth 100000
open Go.RowKit
noncomputable def leastOf (p:Nat→Prop):Nat:=Classical.epsilon fun n=>p n∧∀ m,p m→n≤m
theorem leastOf_spec {p:Nat→Prop} (h:∃ n,p n):p (leastOf p)∧∀ m,p m→leastOf p≤m:=by
 refine Classical.epsilon_spec (p:=fun n=>p n∧∀ m,p m→n≤m) ?_
 obtain ⟨n,hn⟩:=h
 induction n using Nat.strongRecOn with
 | _ n ih =>
  by_cases hq:∃ m,m < n∧p m
  ·obtain ⟨m,h1,h2⟩:=hq
   exact ih m h1 h2
  ·exact ⟨n,hn,fun m hm=>Nat.le_of_not_lt fun h=>hq ⟨m,h,hm⟩⟩
theorem wp_label_ghost {P:Program} {R:Code} {a:Act} {w:World} {Q:Exit→Act→World→Prop} (l:Nat) (J:Nat→Act→World→Prop) (n0:Nat) (h0:J n0 a w)
  (pass:∀ n a w,J n a w→R.wp P (Exit.jump l (fun a' w' => ∃ m,m < n∧J m a' w') Q) a w):(Code.scope ((Code.label l).seq R)).wp P Q a w:=by
 refine wp_scope_jumps l (fun a w => ∃ n,J n a w) (fun a w=>leastOf fun n=>J n a w) (rest:=Code.skip.seq R) (by simp [findLabel]) ?_ ?_
 ·refine wp_seq (wp_label ?_)
  refine Code.wp_mono (fun e a w h => ?_) (pass n0 a w h0)
  cases e with
  | goto l'=>obtain ⟨h1,m,_,h2⟩:=h;exact ⟨h1,m,h2⟩
  | _=>exact h
 ·intro a w hJ
  obtain ⟨h1,_⟩:=leastOf_spec hJ
  refine wp_seq (wp_skip ?_)
  refine Code.wp_mono (fun e a w h => ?_) (pass _ a w h1)
  cases e with
  | goto l' =>
   obtain ⟨q1,m,q2,q3⟩:=h
   exact ⟨q1,⟨m,q3⟩,Nat.lt_of_le_of_lt ((leastOf_spec ⟨m,q3⟩).2 m q3) q2⟩
  | _=>exact h
theorem step1_eq (c:CoD) (kn:List Int) (h:¬ 1000 < c.dec.length) (hs:0≤c.step∧c.step≤3):c.step1 kn = (c.agreed.map c.conclude).or (c.cat1.or ((c.pre1 kn).or ((c.com1 kn).or (c.rev1 kn)))):=by
 unfold CoD.step1
 rw [if_neg h]
 cases c.agreed with
 | some v=>rfl
 | none =>
  simp only [Option.map_none,Option.none_or]
  unfold CoD.cat1 CoD.pre1 CoD.com1 CoD.rev1 CoD.step45
  by_cases h0:c.step = 0
  ·rw [if_pos h0,if_pos (show c.step = 0∨c.T.aheadOf c.t c.view≤c.view from .inl h0),if_neg (by omega),if_neg (by omega),if_neg (by omega)];rfl
  ·rw [if_neg h0]
   by_cases ha:c.view < c.T.aheadOf c.t c.view
   ·rw [if_pos ha,if_neg (by omega)];rfl
   ·rw [if_neg ha,if_pos (show c.step = 0∨c.T.aheadOf c.t c.view≤c.view from .inr (by omega))]
    simp only [Option.none_or]
    by_cases h1:c.step = 1
    ·rw [if_pos h1,if_pos h1,if_neg (by omega),if_neg (by omega)]
     cases c.step3 kn <;> rfl
    ·rw [if_neg h1,if_neg h1]
     simp only [Option.none_or]
     have h23:c.step = 2∨c.step = 3:=by omega
     cases c.T.mostOf c.t 4 c.view with
     | none=>rcases h23 with e | e <;> rw [e] <;> rfl
     | some x =>
      simp only
      rcases h23 with e | e
      ·rw [e]
       simp only [if_true]
       rw [if_neg (show ¬ (2:Int) = 3 by decide),Option.or_none]
      ·rw [e]
       simp only [if_true]
       rw [if_neg (show ¬ (3:Int) = 2 by decide),if_neg (show ¬ (3:Int) = 2 by decide),Option.none_or]
theorem castTo_len (c:CoD) (k x s:Int):((c.cast k x).to s).out.length≤c.out.length + 1:=by
 unfold CoD.cast CoD.to
 split
 ·simp
 ·simp
theorem enter_len (c:CoD) (v:Int):(c.enter v).out.length≤c.out.length + 1:=by
 unfold CoD.enter
 simp only
 split
 ·unfold CoD.send CoD.setProp CoD.to;simp
 ·unfold CoD.to;simp
theorem step1_len {c d:CoD} {kn:List Int} (h:c.step1 kn = some d):d.out.length≤c.out.length + 1:=by
 unfold CoD.step1 at h
 split at h
 ·cases h
 split at h
 ·injection h with h;subst h;unfold CoD.conclude CoD.rest;simp
 split at h
 ·cases h
 split at h
 ·injection h with h;subst h;exact enter_len _ _
 split at h
 ·unfold CoD.step3 at h
  split at h
  ·cases h
  ·split at h
   ·injection h with h;subst h;exact castTo_len _ _ _ _
   ·cases h
 ·unfold CoD.step45 at h
  split at h
  ·cases h
  ·split at h
   ·split at h
    ·injection h with h;subst h
     unfold CoD.comm
     refine Nat.le_trans (castTo_len _ _ _ _) ?_
     unfold CoD.lock;split <;> simp
    ·cases h
   ·split at h
    ·injection h with h;subst h;unfold CoD.valid;simp
    ·cases h
theorem pr_in64 {p w:Int} (h : -1≤p∧p < w) (k:0≤w∧w≤1000):In64 p:=by unfold In64;omega
theorem dec_room {n:Nat} (h:n≤1001):(n + 1) * 8≤140737488355328:=by omega
theorem room_of {a b m n K:Nat} (h:a + m≤b + n) (k:(b + n + 1) * 128≤K):(a + 1) * 128≤K:=Nat.le_trans (Nat.mul_le_mul_right 128 (by omega)) k
theorem room_step {a b m n L:Nat} (h:b≤a + 1) (k:n < m) (l:a + m≤L):b + n≤L:=by omega
theorem NV.in64 {x:Int} (h:NV x):In64 x:=by
 rcases h with rfl | h
 ·unfold In64;omega
 ·have:=MsgD.nm_le h;unfold In64;omega
theorem settle_turn {S:Nat→Nat} {w:World} {tb p q gp gs:Nat} {kv ov sv dv:Value} {kn:List Int} {c:CoD} {i0:Int} (h:TrnW S w tb p kv ov sv dv q gp gs kn c) (hsp0:Spk NV i0 c) (hlen0:(c.out.length + c.mu + 1) * 128≤140737488355328) :
  Calls Tryz.prog 25 #[.pointer (some ⟨tb,0,none⟩)] w fun e w'=>e = .returned (.tuple #[])∧∃ S',Trn S' w' tb p kv kn (c.settle kn)∧Stp 1 8 S S' w w':=by
 refine z2rz ?_
 have hT0:=hide_ h
 have hlen:=hide_ hlen0
 have hsp00:=hide_ hsp0
 clear h hlen0 hsp0
 go_enter Tryz.func25,Tryz.ntmps25
 refine wp_label_ghost 0 (fun n a' w' => ∃ (d:CoD) (u2 u3 u4 u5 u6 u7 u8 u9 u10 u11 u12 u13 u14 u15 u16 u17 u18 u19 u20 u21 u22 u23 u24:Value) (S3:Nat→Nat) (ov3 sv3 dv3:Value) (q3 gp3 gs3:Nat),a' = { tmps:=#[.pointer (some ⟨tb,0,none⟩),undef,u2,u3,u4,u5,u6,u7,u8,u9,u10,u11,u12,u13,u14,u15,u16,u17,u18,u19,u20,u21,u22,u23,u24],defers:=[] }∧TrnW S3 w' tb p kv ov3 sv3 dv3 q3 gp3 gs3 kn d∧Spk NV i0 d∧d.settle kn = c.settle kn∧d.mu = n∧d.out.length + d.mu≤c.out.length + c.mu∧Stp 1 8 S S3 w w') c.mu
  ⟨c,undef,undef,undef,undef,undef,undef,undef,undef,undef,undef,undef,undef,undef,undef,undef,undef,undef,undef,undef,undef,undef,undef,undef,S,ov,sv,dv,q,gp,gs,rfl,hT0.out,hsp00.out,rfl,rfl,Nat.le_refl _,Stp.refl hT0.out.bnd⟩ ?_
 rintro n a' w' ⟨d,u2,u3,u4,u5,u6,u7,u8,u9,u10,u11,u12,u13,u14,u15,u16,u17,u18,u19,u20,u21,u22,u23,u24,S3,ov3,sv3,dv3,q3,gp3,gs3,rfl,hTd,hspd,hset0,rfl,hbo0,hS0⟩
 have hX:=Ext.refl w'
 have hl1:=hide_ (show (d.out.length + 1) * 128≤140737488355328 from room_of hbo0 hlen.out)
 have hA:=hspd.1
 have hdl:=hide_ (show (d.dec.length + 1) * 8≤140737488355328 from dec_room hA.dl)
 have hvw:=hide_ hA.vw.1
 have hvr:=hide_ hA.rv
 have hpN:=hide_ (show ∀ w p,d.prop w = some p→In64 p.1∧In64 p.2 from fun w p hp=>by
  obtain ⟨_,_,_,_,hD⟩:=hTd.cor.prp
  have h1:=hD.2.2 w (by rw [hp];simp)
  have h2:=hA.pr w p hp
  exact ⟨NV.in64 h2.1,pr_in64 h2.2 h1⟩)
 have hmN:=hide_ (show ∀ x,d.T.mostOf d.t 4 d.view = some x→In64 x from fun x hx=>by
  rcases hA.mostN hx with e | e
  ·rw [e];exact ⟨by decide,by decide⟩
  ·exact NV.in64 e)
 have hS:=hS0
 have hT:=hide_ hTd
 have hset:=hide_ hset0
 have hbo:=hide_ hbo0
 have hsp:=hide_ hspd
 obtain ⟨o,ho⟩:∃ o,decide (1000 < d.dec.length) = o:=⟨_,rfl⟩
 have hov:=hide_ ho
 cases o with
 | true =>
  have hfin:=hide_ (show c.settle kn = d from by
   rw [← hset0]
   refine settle_none ?_
   unfold CoD.step1
   rw [if_pos (of_decide_eq_true ho)])
  clear hTd hspd hset0 hbo0 hS0 hA ho
  go_wp2_with ((first | go_big_skip | (go_at_call 30;refine (isOver_core hT.out.cor hov.out).mono ?_;rintro e w2 ⟨rfl,hx⟩;replace hS:=hS.trans (Stp.ofExt hx hT.out.bnd);replace hT:=hide_ (hT.out.ext hx);clear hx) | refine z1pz ?_ | refine zqz ?_ | fail) <;> (try refine z0z ?_))
  simp only [Exit.jump]
  go_end0
  exact Keep.intro ⟨rfl,_,⟨_,_,_,_,_,_,by rw [hfin.out];exact hT.out⟩,hS⟩
 | false =>
  have hstep:=step1_eq d kn (of_decide_eq_false ho) hA.rs
  have hnext:∀ e2,d.step1 kn = some e2→e2.mu < d.mu∧Spk NV i0 e2∧e2.settle kn = c.settle kn∧e2.out.length + e2.mu≤c.out.length + c.mu:=fun e2 h2=>by
   have h3:=mu_step1 hA h2
   have h4:=step1_len h2
   exact ⟨h3,spk_step1 hspd NV.zero h2,by rw [← hset0,settle_some hspd NV.zero h2],room_step h4 h3 hbo0⟩
  obtain ⟨r1,e1⟩:∃ r,d.agreed.map d.conclude = r:=⟨_,rfl⟩
  obtain ⟨r2,e2'⟩:∃ r,d.cat1 = r:=⟨_,rfl⟩
  obtain ⟨r3,e3⟩:∃ r,d.pre1 kn = r:=⟨_,rfl⟩
  obtain ⟨r4,e4⟩:∃ r,d.com1 kn = r:=⟨_,rfl⟩
  obtain ⟨r5,e5⟩:∃ r,d.rev1 kn = r:=⟨_,rfl⟩
  rw [e1,e2',e3,e4,e5] at hstep
  have hr1:=hide_ e1
  have hr2:=hide_ e2'
  have hr3:=hide_ e3
  have hr4:=hide_ e4
  have hr5:=hide_ e5
  clear e1 e2' e3 e4 e5
  cases r1 with
  | some e2 =>
   obtain ⟨m1,m2,m3,m4⟩:=hnext e2 hstep
   have hmu:=hide_ m1
   have hsp2:=hide_ m2
   have hset2:=hide_ m3
   have hbo2:=hide_ m4
   clear hTd hspd hset0 hbo0 hS0 hA ho hstep hnext m1 m2 m3 m4
   go_wp2_with ((first | go_big_skip | (go_at_call 30;refine (isOver_core hT.out.cor hov.out).mono ?_;rintro e w2 ⟨rfl,hx⟩;replace hS:=hS.trans (Stp.ofExt hx hT.out.bnd);replace hT:=hide_ (hT.out.ext hx);clear hx) | (refine z2uz ?_;go_at_call 42;refine (decide_turn hT.out hl1.out hdl.out hr1.out).mono ?_;rintro e w3 ⟨rfl,S4,⟨ov4,sv4,dv4,q4,gp4,gs4,hT4⟩,hs4⟩;replace hS:=hS.trans hs4;have hT4':TrnW S4 w3 tb p kv ov4 sv4 dv4 q4 gp4 gs4 kn e2:=hT4;replace hT:=hide_ hT4';clear hT4 hT4' hs4) | refine z1pz ?_ | refine zqz ?_ | fail) <;> (try refine z0z ?_))
   go_step3
   exact z2cz
  | none =>
   cases r2 with
   | some e2 =>
    obtain ⟨m1,m2,m3,m4⟩:=hnext e2 hstep
    have hmu:=hide_ m1
    have hsp2:=hide_ m2
    have hset2:=hide_ m3
    have hbo2:=hide_ m4
    clear hTd hspd hset0 hbo0 hS0 hA ho hstep hnext m1 m2 m3 m4
    go_wp2_with ((first | go_big_skip | (go_at_call 30;refine (isOver_core hT.out.cor hov.out).mono ?_;rintro e w2 ⟨rfl,hx⟩;replace hS:=hS.trans (Stp.ofExt hx hT.out.bnd);replace hT:=hide_ (hT.out.ext hx);clear hx) | (refine z2uz ?_;go_at_call 42;refine (decide_turn hT.out hl1.out hdl.out hr1.out).mono ?_;rintro e w3 ⟨rfl,S4,⟨ov4,sv4,dv4,q4,gp4,gs4,hT4⟩,hs4⟩;replace hS:=hS.trans hs4;have hT4':TrnW S4 w3 tb p kv ov4 sv4 dv4 q4 gp4 gs4 kn d:=hT4;replace hT:=hide_ hT4';clear hT4 hT4' hs4) | (refine z2uz ?_;go_at_call 43;refine (catchUp_turn hT.out hvw.out hl1.out hr2.out).mono ?_;rintro e w3 ⟨rfl,S4,⟨ov4,sv4,dv4,q4,gp4,gs4,hT4⟩,hs4⟩;replace hS:=hS.trans hs4;have hT4':TrnW S4 w3 tb p kv ov4 sv4 dv4 q4 gp4 gs4 kn e2:=hT4;replace hT:=hide_ hT4';clear hT4 hT4' hs4) | refine z1pz ?_ | refine zqz ?_ | fail) <;> (try refine z0z ?_))
    go_step3
    exact z2cz
   | none =>
    cases r3 with
    | some e2 =>
     obtain ⟨m1,m2,m3,m4⟩:=hnext e2 hstep
     have hmu:=hide_ m1
     have hsp2:=hide_ m2
     have hset2:=hide_ m3
     have hbo2:=hide_ m4
     clear hTd hspd hset0 hbo0 hS0 hA ho hstep hnext m1 m2 m3 m4
     go_wp2_with ((first | go_big_skip | (go_at_call 30;refine (isOver_core hT.out.cor hov.out).mono ?_;rintro e w2 ⟨rfl,hx⟩;replace hS:=hS.trans (Stp.ofExt hx hT.out.bnd);replace hT:=hide_ (hT.out.ext hx);clear hx) | (refine z2uz ?_;go_at_call 42;refine (decide_turn hT.out hl1.out hdl.out hr1.out).mono ?_;rintro e w3 ⟨rfl,S4,⟨ov4,sv4,dv4,q4,gp4,gs4,hT4⟩,hs4⟩;replace hS:=hS.trans hs4;have hT4':TrnW S4 w3 tb p kv ov4 sv4 dv4 q4 gp4 gs4 kn d:=hT4;replace hT:=hide_ hT4';clear hT4 hT4' hs4) | (refine z2uz ?_;go_at_call 43;refine (catchUp_turn hT.out hvw.out hl1.out hr2.out).mono ?_;rintro e w3 ⟨rfl,S4,⟨ov4,sv4,dv4,q4,gp4,gs4,hT4⟩,hs4⟩;replace hS:=hS.trans hs4;have hT4':TrnW S4 w3 tb p kv ov4 sv4 dv4 q4 gp4 gs4 kn d:=hT4;replace hT:=hide_ hT4';clear hT4 hT4' hs4) | (refine z2uz ?_;go_at_call 44;refine (prepare_turn hT.out hvr.out hpN.out hl1.out hr3.out).mono ?_;rintro e w3 ⟨rfl,S4,⟨ov4,sv4,dv4,q4,gp4,gs4,hT4⟩,hs4⟩;replace hS:=hS.trans hs4;have hT4':TrnW S4 w3 tb p kv ov4 sv4 dv4 q4 gp4 gs4 kn e2:=hT4;replace hT:=hide_ hT4';clear hT4 hT4' hs4) | refine z1pz ?_ | refine zqz ?_ | fail) <;> (try refine z0z ?_))
     go_step3
     exact z2cz
    | none =>
     cases r4 with
     | some e2 =>
      obtain ⟨m1,m2,m3,m4⟩:=hnext e2 hstep
      have hmu:=hide_ m1
      have hsp2:=hide_ m2
      have hset2:=hide_ m3
      have hbo2:=hide_ m4
      clear hTd hspd hset0 hbo0 hS0 hA ho hstep hnext m1 m2 m3 m4
      go_wp2_with ((first | go_big_skip | (go_at_call 30;refine (isOver_core hT.out.cor hov.out).mono ?_;rintro e w2 ⟨rfl,hx⟩;replace hS:=hS.trans (Stp.ofExt hx hT.out.bnd);replace hT:=hide_ (hT.out.ext hx);clear hx) | (refine z2uz ?_;go_at_call 42;refine (decide_turn hT.out hl1.out hdl.out hr1.out).mono ?_;rintro e w3 ⟨rfl,S4,⟨ov4,sv4,dv4,q4,gp4,gs4,hT4⟩,hs4⟩;replace hS:=hS.trans hs4;have hT4':TrnW S4 w3 tb p kv ov4 sv4 dv4 q4 gp4 gs4 kn d:=hT4;replace hT:=hide_ hT4';clear hT4 hT4' hs4) | (refine z2uz ?_;go_at_call 43;refine (catchUp_turn hT.out hvw.out hl1.out hr2.out).mono ?_;rintro e w3 ⟨rfl,S4,⟨ov4,sv4,dv4,q4,gp4,gs4,hT4⟩,hs4⟩;replace hS:=hS.trans hs4;have hT4':TrnW S4 w3 tb p kv ov4 sv4 dv4 q4 gp4 gs4 kn d:=hT4;replace hT:=hide_ hT4';clear hT4 hT4' hs4) | (refine z2uz ?_;go_at_call 44;refine (prepare_turn hT.out hvr.out hpN.out hl1.out hr3.out).mono ?_;rintro e w3 ⟨rfl,S4,⟨ov4,sv4,dv4,q4,gp4,gs4,hT4⟩,hs4⟩;replace hS:=hS.trans hs4;have hT4':TrnW S4 w3 tb p kv ov4 sv4 dv4 q4 gp4 gs4 kn d:=hT4;replace hT:=hide_ hT4';clear hT4 hT4' hs4) | (refine z2uz ?_;go_at_call 45;refine (commit_turn hT.out hvr.out hmN.out hl1.out hr4.out).mono ?_;rintro e w3 ⟨rfl,S4,⟨ov4,sv4,dv4,q4,gp4,gs4,hT4⟩,hs4⟩;replace hS:=hS.trans hs4;have hT4':TrnW S4 w3 tb p kv ov4 sv4 dv4 q4 gp4 gs4 kn e2:=hT4;replace hT:=hide_ hT4';clear hT4 hT4' hs4) | refine z1pz ?_ | refine zqz ?_ | fail) <;> (try refine z0z ?_))
      go_step3
      exact z2cz
     | none =>
      cases r5 with
      | some e2 =>
       obtain ⟨m1,m2,m3,m4⟩:=hnext e2 hstep
       have hmu:=hide_ m1
       have hsp2:=hide_ m2
       have hset2:=hide_ m3
       have hbo2:=hide_ m4
       clear hTd hspd hset0 hbo0 hS0 hA ho hstep hnext m1 m2 m3 m4
       go_wp2_with ((first | go_big_skip | (go_at_call 30;refine (isOver_core hT.out.cor hov.out).mono ?_;rintro e w2 ⟨rfl,hx⟩;replace hS:=hS.trans (Stp.ofExt hx hT.out.bnd);replace hT:=hide_ (hT.out.ext hx);clear hx) | (refine z2uz ?_;go_at_call 42;refine (decide_turn hT.out hl1.out hdl.out hr1.out).mono ?_;rintro e w3 ⟨rfl,S4,⟨ov4,sv4,dv4,q4,gp4,gs4,hT4⟩,hs4⟩;replace hS:=hS.trans hs4;have hT4':TrnW S4 w3 tb p kv ov4 sv4 dv4 q4 gp4 gs4 kn d:=hT4;replace hT:=hide_ hT4';clear hT4 hT4' hs4) | (refine z2uz ?_;go_at_call 43;refine (catchUp_turn hT.out hvw.out hl1.out hr2.out).mono ?_;rintro e w3 ⟨rfl,S4,⟨ov4,sv4,dv4,q4,gp4,gs4,hT4⟩,hs4⟩;replace hS:=hS.trans hs4;have hT4':TrnW S4 w3 tb p kv ov4 sv4 dv4 q4 gp4 gs4 kn d:=hT4;replace hT:=hide_ hT4';clear hT4 hT4' hs4) | (refine z2uz ?_;go_at_call 44;refine (prepare_turn hT.out hvr.out hpN.out hl1.out hr3.out).mono ?_;rintro e w3 ⟨rfl,S4,⟨ov4,sv4,dv4,q4,gp4,gs4,hT4⟩,hs4⟩;replace hS:=hS.trans hs4;have hT4':TrnW S4 w3 tb p kv ov4 sv4 dv4 q4 gp4 gs4 kn d:=hT4;replace hT:=hide_ hT4';clear hT4 hT4' hs4) | (refine z2uz ?_;go_at_call 45;refine (commit_turn hT.out hvr.out hmN.out hl1.out hr4.out).mono ?_;rintro e w3 ⟨rfl,S4,⟨ov4,sv4,dv4,q4,gp4,gs4,hT4⟩,hs4⟩;replace hS:=hS.trans hs4;have hT4':TrnW S4 w3 tb p kv ov4 sv4 dv4 q4 gp4 gs4 kn d:=hT4;replace hT:=hide_ hT4';clear hT4 hT4' hs4) | (refine z2uz ?_;go_at_call 46;refine (revalue_turn hT.out hvr.out hr5.out).mono ?_;rintro e w3 ⟨rfl,S4,⟨ov4,sv4,dv4,q4,gp4,gs4,hT4⟩,hs4⟩;replace hS:=hS.trans hs4;have hT4':TrnW S4 w3 tb p kv ov4 sv4 dv4 q4 gp4 gs4 kn e2:=hT4;replace hT:=hide_ hT4';clear hT4 hT4' hs4) | refine z1pz ?_ | refine zqz ?_ | fail) <;> (try refine z0z ?_))
       go_step3
       exact z2cz
      | none =>
       have hfin:=hide_ (show c.settle kn = d from by rw [← hset0];exact settle_none hstep)
       clear hTd hspd hset0 hbo0 hS0 hA ho hstep hnext
       go_wp2_with ((first | go_big_skip | (go_at_call 30;refine (isOver_core hT.out.cor hov.out).mono ?_;rintro e w2 ⟨rfl,hx⟩;replace hS:=hS.trans (Stp.ofExt hx hT.out.bnd);replace hT:=hide_ (hT.out.ext hx);clear hx) | (refine z2uz ?_;go_at_call 42;refine (decide_turn hT.out hl1.out hdl.out hr1.out).mono ?_;rintro e w3 ⟨rfl,S4,⟨ov4,sv4,dv4,q4,gp4,gs4,hT4⟩,hs4⟩;replace hS:=hS.trans hs4;have hT4':TrnW S4 w3 tb p kv ov4 sv4 dv4 q4 gp4 gs4 kn d:=hT4;replace hT:=hide_ hT4';clear hT4 hT4' hs4) | (refine z2uz ?_;go_at_call 43;refine (catchUp_turn hT.out hvw.out hl1.out hr2.out).mono ?_;rintro e w3 ⟨rfl,S4,⟨ov4,sv4,dv4,q4,gp4,gs4,hT4⟩,hs4⟩;replace hS:=hS.trans hs4;have hT4':TrnW S4 w3 tb p kv ov4 sv4 dv4 q4 gp4 gs4 kn d:=hT4;replace hT:=hide_ hT4';clear hT4 hT4' hs4) | (refine z2uz ?_;go_at_call 44;refine (prepare_turn hT.out hvr.out hpN.out hl1.out hr3.out).mono ?_;rintro e w3 ⟨rfl,S4,⟨ov4,sv4,dv4,q4,gp4,gs4,hT4⟩,hs4⟩;replace hS:=hS.trans hs4;have hT4':TrnW S4 w3 tb p kv ov4 sv4 dv4 q4 gp4 gs4 kn d:=hT4;replace hT:=hide_ hT4';clear hT4 hT4' hs4) | (refine z2uz ?_;go_at_call 45;refine (commit_turn hT.out hvr.out hmN.out hl1.out hr4.out).mono ?_;rintro e w3 ⟨rfl,S4,⟨ov4,sv4,dv4,q4,gp4,gs4,hT4⟩,hs4⟩;replace hS:=hS.trans hs4;have hT4':TrnW S4 w3 tb p kv ov4 sv4 dv4 q4 gp4 gs4 kn d:=hT4;replace hT:=hide_ hT4';clear hT4 hT4' hs4) | (refine z2uz ?_;go_at_call 46;refine (revalue_turn hT.out hvr.out hr5.out).mono ?_;rintro e w3 ⟨rfl,S4,⟨ov4,sv4,dv4,q4,gp4,gs4,hT4⟩,hs4⟩;replace hS:=hS.trans hs4;have hT4':TrnW S4 w3 tb p kv ov4 sv4 dv4 q4 gp4 gs4 kn d:=hT4;replace hT:=hide_ hT4';clear hT4 hT4' hs4) | refine z1pz ?_ | refine zqz ?_ | fail) <;> (try refine z0z ?_))
       simp only [Exit.jump]
       go_end0
       exact Keep.intro ⟨rfl,_,⟨_,_,_,_,_,_,by rw [hfin.out];exact hT.out⟩,hS⟩
theorem runs_ilookB {o:Oper} {ρ:Operand→Value} {w:World} (x y:Operand) {mb:Option Nat} {f:Nat→Option Int} {j:Int} (ho:o.op = Op.lookup 65 x y true) (hx : ρ x = .map mb) (hy : ρ y = .int .i64 j)
  {N:Nat} (hj:In64 j) (h:InR N w mb f) {v:Int} {b:Bool} (hr:(fat f j).getD 0 = v∧(fat f j).isSome = b):Runs Tryz.prog o ρ w (.tuple #[.int .i64 v, .bool b]):=by
 have:=runs_ilook (w:=w) x y ho hx hy hj h
 rwa [hr.1,hr.2] at this
theorem Tryz.stTurn:St Tryz.prog 77 3 [.pointer none, .slice none 0 0, .slice none 0 0]:=St.of (by kernel_rfl) (by kernel_rfl) rfl
theorem CorW.turn {S:Nat→Nat} {w w1 w2:World} {tb p q gp gs:Nat} {kv sv dv:Value} {kn:List Int} {c:CoD} (h:CorW S w p sv dv q gp gs c) (h6:∀ k,S k≤6) (hx:Ext w w1) (hg:w.heap.size≤tb) (hm:Mod (fun k=>k = tb) w1 w2) (hf:Fs w2 tb [.pointer (some ⟨p,0,none⟩),kv, .slice none 0 0]) (hk:Ints w kv kn) (hks:∀ k,kv.ownBlock = some k→k < w.heap.size∧S k = 0) (ho:c.out = []) :
  ∃ S',TrnW S' w2 tb p kv (.slice none 0 0) sv dv q gp gs kn c∧(∀ k,k≠tb→S' k = S k)∧S' tb = 7∧Ext w w2:=by
 have hne:∀ k,1≤S k→¬ k = tb:=fun k h1 e=>by have:=h.bnd k (by omega);omega
 have hx2:Ext w w2:=hm.after hx fun j e=>e ▸ hg
 refine ⟨fun k=>if k = tb then 7 else S k, ?_,fun k hk=>if_neg hk,if_pos rfl,hx2⟩
 refine ⟨(h.ext hx2).relab (fun k h1 _=>if_neg (hne k h1)) fun k hk => ?_,hf,if_pos rfl,by rw [ho];exact RowN.nil _ _ _,hk.ext hx2,fun k hk => ?_⟩
 ·split at hk
  ·rename_i e;rw [e];exact hf.lt
  ·exact Nat.lt_of_lt_of_le (h.bnd k hk) hx2.size
 ·obtain ⟨h1,h2⟩:=hks k hk
  exact ⟨Nat.lt_of_lt_of_le h1 hx2.size,by rw [if_neg (by omega)];exact h2⟩
theorem TrnW.done {S S1 S2:Nat→Nat} {w w1 w2:World} {tb p q gp gs:Nat} {kv ov sv dv:Value} {kn:List Int} {c:CoD} (h:TrnW S2 w2 tb p kv ov sv dv q gp gs kn c) (h6:∀ k,S k≤6) (hb:∀ k,S k≠0→k < w.heap.size) (h1:∀ k,k≠tb→S1 k = S k) (htb:w.heap.size≤tb) (hx:Ext w w1) (hs:Stp 1 8 S1 S2 w1 w2) :
  ∃ S',Cor S' w2 p c∧(∀ k,S' k≤6)∧RowN (fun k=>w.heap.size≤k∧S' k = 0) w2 53 14 ov (c.out.map acRow)∧(∀ k,ov.ownBlock = some k→w.heap.size≤k∧S' k = 0)∧Stp 1 6 S S' w w2:=by
 have hold:∀ k,k < w.heap.size→S2 k = S k:=fun k hk=>by
  rw [hs.same k (Nat.lt_of_lt_of_le hk hx.size),h1 k (by omega)]
 have hout:∀ k,S2 k = 8→w.heap.size≤k:=fun k hk=>Nat.le_of_not_lt fun hl=>by have:=hold k hl;have:=h6 k;omega
 refine ⟨fun k=>if S2 k≤6 then S2 k else 0,⟨sv,dv,q,gp,gs,h.cor.relab (fun k h1 h2=>if_pos h2) fun k hk => ?_⟩,fun k => ?_,h.out.mono fun k hk=>⟨hout k hk,if_neg (by omega)⟩,fun k hk => ?_, ?_,fun k hk => ?_,fun k hk => ?_⟩
 ·split at hk
  ·exact h.cor.bnd k hk
  ·exact absurd rfl hk
 ·show (if S2 k≤6 then S2 k else 0)≤6
  split <;> omega
 ·have:=h.out.inF k hk
  exact ⟨hout k this,if_neg (by omega)⟩
 ·refine ((hx.mod fun k=>1≤S k∧S k≤6).trans hs.mod fun k hk q => ?_)
  rw [h1 k (by omega)] at q
  exact ⟨q.1,h6 k⟩
 ·show (if S2 k≤6 then S2 k else 0) = S k
  rw [hold k hk,if_pos (h6 k)]
 ·split at hk
  ·exact h.cor.bnd k hk
  ·exact absurd rfl hk
theorem isNode_core {S:Nat→Nat} {w:World} {p q gp gs:Nat} {sv dv:Value} {c:CoD} {n:Int} (h:CorW S w p sv dv q gp gs c) {r:Bool} (hr0:decide (0≤n∧n < (c.t.length:Int)) = r) :
  Calls Tryz.prog 22 #[.pointer (some ⟨p,0,none⟩), .int .i64 n] w fun e w'=>e = .returned (.bool r)∧Ext w w':=by
 subst hr0
 refine z2rz ?_
 have hC:=hide_ h
 have hst:=hide_ (show Ints w sv c.t from h.stk)
 have hX:=Ext.refl w
 by_cases h1:0≤n
 ·have t1:decide (0≤n) = true:=decide_eq_true h1
  obtain ⟨b,hb0⟩:∃ b,decide (n < (c.t.length:Int)) = b:=⟨_,rfl⟩
  have t2:decide (n < (c.t.length:Int)) = b:=hb0
  have hs:=hide_ (show decide (0≤n∧n < (c.t.length:Int)) = b from by rw [← hb0];exact decide_eq_decide.2 ⟨fun q=>q.2,fun q=>⟨h1,q⟩⟩)
  obtain ⟨m,hm0⟩:∃ m,(c.t.length:Int) = m:=⟨_,rfl⟩
  have hm:=hide_ hm0
  rw [hm0] at t2
  clear h h1 hb0 hm0
  go_enter Tryz.func22,Tryz.ntmps22
  go_wp2_with ((first | go_big_skip | ((with_reducible refine at_bi ?_);(try refine w_yes _ _ _ rfl rfl rfl ?_);refine i_len _ rfl rfl rfl (hst.out.ext hX) ?_;rw [hm.out]) | refine z42z ?_ | fail) <;> (try refine z0z ?_))
  go_ret
  exact z55z
 ·have t1:decide (0≤n) = false:=decide_eq_false h1
  have hs:=hide_ (show decide (0≤n∧n < (c.t.length:Int)) = false from decide_eq_false fun q=>h1 q.1)
  clear h h1
  go_enter Tryz.func22,Tryz.ntmps22
  go_wp2_with (first | go_big_skip | fail)
  go_ret
  exact z55z
theorem take_core {S:Nat→Nat} {w:World} {p q gp gs:Nat} {sv dv:Value} {c:CoD} {d:MsgD} {u:Value} {j:Nat} (h:CorW S w p sv dv q gp gs c) (hok:d.msv.Ok NV) (hj:d.fm = (j:Int)) (hjn0:j < c.t.length) :
  Calls Tryz.prog 24 #[.pointer (some ⟨p,0,none⟩), .agg (mRow d u).toArray] w fun e w'=>e = .returned (.tuple #[])∧∃ S',CorW S' w' p sv dv q gp gs (c.hear d.msv)∧Stp 1 6 S S' w w':=by
 refine z2rz ?_
 have hC:=hide_ h
 have hX:=Ext.refl w
 have hjn:=hide_ hjn0
 have hfm:=hide_ hj
 have hf64:=hide_ (show In64 d.fm from by rw [hj];exact In64.nat (by have:=h.st.2.1;omega))
 have hjt:d.fm.toNat = j:=by rw [hj];simp
 rcases hok.2 with hk | hk | hk
 ·-- a proposal
  have hk3:d.kd = 3:=hk.1
  have t3:(d.kd == 3) = true:=by simp [hk3]
  have hvr:=hide_ (show 0≤d.vw∧d.vw≤1000 from hk.2.2.1)
  have hvw64:=hide_ (show In64 d.vw from by have:=hk.2.2.1;unfold In64;show -9223372036854775808≤d.msv.vw∧d.msv.vw≤9223372036854775807;omega)
  obtain ⟨n,D,hpn0,hpo0,hpm0⟩:=h.prp
  have hpn:=hide_ (Nat.le_trans hpn0 (by omega:1001≤1000000))
  have hpo:=hide_ hpo0
  have hpm:=hide_ hpm0
  obtain ⟨l,hl0⟩:∃ l,c.leader d.vw = l:=⟨_,rfl⟩
  have hld:=hide_ hl0
  have hhear:c.hear d.msv = if c.leader d.vw = d.fm∧c.prop d.vw = none then c.setProp d.vw (d.vl,d.pr) else c:=by unfold CoD.hear;rw [if_pos (show d.msv.kd = 3 from hk3)];rfl
  cases hpp:c.prop d.vw with
  | some pp =>
   obtain ⟨rx,ru⟩:=pp
   obtain ⟨ok,hok1⟩:∃ b,b = true:=⟨_,rfl⟩
   have hpr:=hide_ (show (c.prop d.vw).getD (0,0) = (rx,ru)∧(c.prop d.vw).isSome = ok from by rw [hpp,hok1];exact ⟨rfl,rfl⟩)
   have hok':=hide_ hok1
   have hfin:=hide_ (show c.hear d.msv = c from by rw [hhear,if_neg fun q=>by rw [hpp] at q;cases q.2])
   clear h hok hj hjn0 hjt hk hk3 hpn0 hpo0 hpm0 hl0 hhear hpp hok1
   go_enter Tryz.func24,Tryz.ntmps24
   go_wp2_with ((first | (refine z1sz ?_;intro g3 w1 hg3 hx f3;replace hX:=hX.trans hx;clear hx) | refine z6xz ?_ | fail) <;> (try refine z0z ?_))
   refine wp_region_val [0,1,2,3,4,5,6,7,8,9,10,11,13] (fun i=>([13,14,15,16,17,18,19,20,12,21,22,4,0,5]:List Nat).getD i 0) (fun i x=>x = ([(.pointer (some ⟨p,0,none⟩)),(.pointer (some ⟨p,0,none⟩)),(.pointer (some ⟨p,6,none⟩)),(.pointer (some ⟨p,10,none⟩)),(.map (some gp)),(.pointer (some ⟨g3,3,none⟩)),(.int .i64 d.vw),(.tuple #[.agg #[.int .i64 rx, .int .i64 ru], .bool ok]),(.tuple #[.agg #[.int .i64 rx, .int .i64 ru], .bool ok]),(.agg #[.int .i64 rx, .int .i64 ru]),(.bool ok),undef,undef,(.bool ok)]:List Value).getD i undef) 11 12 [.int .i64 0, .int .i64 0] (fun cs=>cs = [.int .i64 rx, .int .i64 ru]) (by kernel_rfl) (by kernel_rfl) (by kernel_rfl) (by decide) (by decide) (by kernel_rfl) (by intro i hi;show _ < 87;revert i;decide) (by kernel_rfl) (by decide) (by kernel_rfl) ?_ ?_ ?_ ?_
   ·intro i hi ha b w' hx hout hdep
    rcases (show i = 0∨i = 1∨i = 2∨i = 3∨i = 4∨i = 5∨i = 6∨i = 7∨i = 8∨i = 9∨i = 10∨i = 13 by simp at hi;omega) with rfl|rfl|rfl|rfl|rfl|rfl|rfl|rfl|rfl|rfl|rfl|rfl
    ·have e0:b.tmps.getD 0 undef = .pointer (some ⟨p,0,none⟩):=hout 0 (by decide)
     exact z6tz
    ·have e13:b.tmps.getD 13 undef = .pointer (some ⟨p,0,none⟩):=hdep 0 (by decide) (by decide) (by kernel_rfl)
     refine zgz ?_
     refine w_nilC _ rfl rfl e13 ?_
     exact zaz
    ·have e14:b.tmps.getD 14 undef = .pointer (some ⟨p,0,none⟩):=hdep 1 (by decide) (by decide) (by kernel_rfl)
     refine zgz ?_
     refine z6gz ?_
     exact zaz
    ·have e15:b.tmps.getD 15 undef = .pointer (some ⟨p,6,none⟩):=hdep 2 (by decide) (by decide) (by kernel_rfl)
     refine zgz ?_
     refine z6bz ?_
     exact zaz
    ·have e16:b.tmps.getD 16 undef = .pointer (some ⟨p,10,none⟩):=hdep 3 (by decide) (by decide) (by kernel_rfl)
     refine zgz ?_
     refine z60z ?_
     exact zaz
    ·have e3:b.tmps.getD 3 undef = .pointer (some ⟨g3,0,none⟩):=hout 3 (by decide)
     exact z7hz
    ·have e18:b.tmps.getD 18 undef = .pointer (some ⟨g3,3,none⟩):=hdep 5 (by decide) (by decide) (by kernel_rfl)
     exact z72z
    ·have e17:b.tmps.getD 17 undef = .map (some gp):=hdep 4 (by decide) (by decide) (by kernel_rfl)
     have e19:b.tmps.getD 19 undef = .int .i64 d.vw:=hdep 6 (by decide) (by decide) (by kernel_rfl)
     refine zgz ?_
     refine z5hz ?_
     exact zaz
    ·have e20:b.tmps.getD 20 undef = .tuple #[.agg #[.int .i64 rx, .int .i64 ru], .bool ok]:=hdep 7 (by decide) (by decide) (by kernel_rfl)
     exact z7lz
    ·have e12:b.tmps.getD 12 undef = .tuple #[.agg #[.int .i64 rx, .int .i64 ru], .bool ok]:=hdep 8 (by decide) (by decide) (by kernel_rfl)
     exact z7fz
    ·have e12:b.tmps.getD 12 undef = .tuple #[.agg #[.int .i64 rx, .int .i64 ru], .bool ok]:=hdep 8 (by decide) (by decide) (by kernel_rfl)
     exact z7fz
    ·have e22:b.tmps.getD 22 undef = .bool ok:=hdep 10 (by decide) (by decide) (by kernel_rfl)
     exact z7mz
   ·intro b w'
    refine z6uz ?_
    intro g w2 hg hx f
    exact z5gz
   ·intro b w' g hx e4 f hdep
    have e21:b.tmps.getD 21 undef = .agg #[.int .i64 rx, .int .i64 ru]:=hdep 9 (by decide) (by decide) (by kernel_rfl)
    refine zgz ?_
    refine w_astoreN Tryz.stPrep (.tmp 4) (.tmp 21) (us:=[.int .i64 rx, .int .i64 ru]) rfl rfl rfl e4 e21 f rfl rfl (by intro u hu;simp at hu;rcases hu with rfl|rfl <;> rfl) ?_
    intro w2 hm f2
    exact z4uz
   intro w8 x hx8 hv hc
   obtain ⟨g4,cs,eal,hg8,f4,rfl⟩:=hc
   have ek13:x 13 = .bool ok:=hv 13 (by decide) (by decide)
   simp only [List.foldl_cons,List.foldl_nil,eal,ek13]
   generalize x 0 = x100
   generalize x 1 = x101
   generalize x 2 = x102
   generalize x 3 = x103
   generalize x 4 = x104
   generalize x 5 = x105
   generalize x 6 = x106
   generalize x 7 = x107
   generalize x 8 = x108
   generalize x 9 = x109
   generalize x 10 = x110
   refine z1cz ?_
   clear hv eal ek13
   replace f3:=f3.ext hx8;replace hX:=hX.trans hx8;clear hx8;rw [hok'.out]
   go_wp2
   refine zmz ?_;intro wd hxd;have HC:=hC.out.ext (hX.trans hxd);have F3:=f3.ext hxd
   refine Ph.rest 0 11 (by kernel_rfl) ?_
   refine LinL.st [(5,none)] rfl (opmv (.bool true)) ?_
   refine LinL.step (s:=(.val (.bool false))) [(23,some 0)] rfl (by kernel_rfl) (op_runs rfl fun σ w' hx hg=>⟨(.bool false),by have h23 : σ.tmps.getD 23 undef = .bool true:=hg.1;unfold Runs execOp;simp [Act.eval,h23,go_sem],rfl⟩) ?_
   refine LinL.st [(24,some 0)] rfl (opcp (.val (.bool false))) ?_
   refine LinL.step (s := .val undef) [(3,none),(25,some 0)] rfl (by kernel_rfl) (op_no (reads:=[(3,none)]) 2 25 0 true rfl rfl rfl) ?_
   refine LinL.step (s := .val undef) [(26,some 0),(25,some 1)] rfl (by kernel_rfl) (op_no (reads:=[(26,some 0)]) 2 25 1 true rfl rfl rfl) ?_
   refine LinL.step (s := .val undef) [(0,none),(25,some 2)] rfl (by kernel_rfl) (op_no (reads:=[(0,none)]) 2 25 2 true rfl rfl rfl) ?_
   refine LinL.step (s := .val undef) [(3,none),(25,some 3)] rfl (by kernel_rfl) (op_no (reads:=[(3,none)]) 2 25 3 true rfl rfl rfl) ?_
   refine LinL.step (s := .val undef) [(29,some 0),(25,some 4)] rfl (by kernel_rfl) (op_no (reads:=[(29,some 0)]) 2 25 4 true rfl rfl rfl) ?_
   refine LinL.step (s := .val undef) [(28,some 2),(30,some 0),(25,some 5)] rfl (by kernel_rfl) (op_no (reads:=[(28,some 2),(30,some 0)]) 2 25 5 true rfl rfl rfl) ?_
   refine LinL.step (s := .val undef) [(27,some 4),(31,some 0),(25,some 6)] rfl (by kernel_rfl) (op_no (reads:=[(27,some 4),(31,some 0)]) 2 25 6 true rfl rfl rfl) ?_
   refine LinL.step (s:=(.val (.bool false))) [(25,some 7),(32,some 0)] rfl (by kernel_rfl) (op_runs rfl fun σ w' hx hg=>⟨_,runs_pick_f (ρ := σ.eval) (w:=w') (.tmp 25) (.tmp 32) (.const (.bool false)) rfl hg.1 rfl,rfl⟩) ?_
   intro wN hxN
   refine z15z ?_
   replace hX:=hX.trans (hxd.trans hxN);replace f3:=f3.ext (hxd.trans hxN);clear hxd hxN HC F3
   go_wp2
   go_end0
   exact z5oz
  | none =>
   obtain ⟨rx,hrx⟩:∃ r:Int,r = 0:=⟨_,rfl⟩
   obtain ⟨ru,hru⟩:∃ r:Int,r = 0:=⟨_,rfl⟩
   obtain ⟨ok,hok1⟩:∃ b,b = false:=⟨_,rfl⟩
   have hpr:=hide_ (show (c.prop d.vw).getD (0,0) = (rx,ru)∧(c.prop d.vw).isSome = ok from by rw [hpp,hrx,hru,hok1];exact ⟨rfl,rfl⟩)
   have hok':=hide_ hok1
   by_cases hlm:d.fm = l
   ·have tl:(d.fm == l) = true:=by simpa using hlm
    have hfin:=hide_ (show c.hear d.msv = c.setProp d.vw (d.vl,d.pr) from by rw [hhear,if_pos ⟨hl0.trans hlm.symm,hpp⟩])
    clear h hok hj hjn0 hjt hk hk3 hpn0 hpo0 hpm0 hl0 hhear hpp hrx hru hok1 hlm
    go_enter Tryz.func24,Tryz.ntmps24
    go_wp2_with ((first | (refine z1sz ?_;intro g3 w1 hg3 hx f3;replace hX:=hX.trans hx;clear hx) | refine z6xz ?_ | fail) <;> (try refine z0z ?_))
    refine wp_region_val [0,1,2,3,4,5,6,7,8,9,10,11,13] (fun i=>([13,14,15,16,17,18,19,20,12,21,22,4,0,5]:List Nat).getD i 0) (fun i x=>x = ([(.pointer (some ⟨p,0,none⟩)),(.pointer (some ⟨p,0,none⟩)),(.pointer (some ⟨p,6,none⟩)),(.pointer (some ⟨p,10,none⟩)),(.map (some gp)),(.pointer (some ⟨g3,3,none⟩)),(.int .i64 d.vw),(.tuple #[.agg #[.int .i64 rx, .int .i64 ru], .bool ok]),(.tuple #[.agg #[.int .i64 rx, .int .i64 ru], .bool ok]),(.agg #[.int .i64 rx, .int .i64 ru]),(.bool ok),undef,undef,(.bool ok)]:List Value).getD i undef) 11 12 [.int .i64 0, .int .i64 0] (fun cs=>cs = [.int .i64 rx, .int .i64 ru]) (by kernel_rfl) (by kernel_rfl) (by kernel_rfl) (by decide) (by decide) (by kernel_rfl) (by intro i hi;show _ < 87;revert i;decide) (by kernel_rfl) (by decide) (by kernel_rfl) ?_ ?_ ?_ ?_
    ·intro i hi ha b w' hx hout hdep
     rcases (show i = 0∨i = 1∨i = 2∨i = 3∨i = 4∨i = 5∨i = 6∨i = 7∨i = 8∨i = 9∨i = 10∨i = 13 by simp at hi;omega) with rfl|rfl|rfl|rfl|rfl|rfl|rfl|rfl|rfl|rfl|rfl|rfl
     ·have e0:b.tmps.getD 0 undef = .pointer (some ⟨p,0,none⟩):=hout 0 (by decide)
      exact z6tz
     ·have e13:b.tmps.getD 13 undef = .pointer (some ⟨p,0,none⟩):=hdep 0 (by decide) (by decide) (by kernel_rfl)
      refine zgz ?_
      refine w_nilC _ rfl rfl e13 ?_
      exact zaz
     ·have e14:b.tmps.getD 14 undef = .pointer (some ⟨p,0,none⟩):=hdep 1 (by decide) (by decide) (by kernel_rfl)
      refine zgz ?_
      refine z6gz ?_
      exact zaz
     ·have e15:b.tmps.getD 15 undef = .pointer (some ⟨p,6,none⟩):=hdep 2 (by decide) (by decide) (by kernel_rfl)
      refine zgz ?_
      refine z6bz ?_
      exact zaz
     ·have e16:b.tmps.getD 16 undef = .pointer (some ⟨p,10,none⟩):=hdep 3 (by decide) (by decide) (by kernel_rfl)
      refine zgz ?_
      refine z60z ?_
      exact zaz
     ·have e3:b.tmps.getD 3 undef = .pointer (some ⟨g3,0,none⟩):=hout 3 (by decide)
      exact z7hz
     ·have e18:b.tmps.getD 18 undef = .pointer (some ⟨g3,3,none⟩):=hdep 5 (by decide) (by decide) (by kernel_rfl)
      exact z72z
     ·have e17:b.tmps.getD 17 undef = .map (some gp):=hdep 4 (by decide) (by decide) (by kernel_rfl)
      have e19:b.tmps.getD 19 undef = .int .i64 d.vw:=hdep 6 (by decide) (by decide) (by kernel_rfl)
      refine zgz ?_
      refine z5hz ?_
      exact zaz
     ·have e20:b.tmps.getD 20 undef = .tuple #[.agg #[.int .i64 rx, .int .i64 ru], .bool ok]:=hdep 7 (by decide) (by decide) (by kernel_rfl)
      exact z7lz
     ·have e12:b.tmps.getD 12 undef = .tuple #[.agg #[.int .i64 rx, .int .i64 ru], .bool ok]:=hdep 8 (by decide) (by decide) (by kernel_rfl)
      exact z7fz
     ·have e12:b.tmps.getD 12 undef = .tuple #[.agg #[.int .i64 rx, .int .i64 ru], .bool ok]:=hdep 8 (by decide) (by decide) (by kernel_rfl)
      exact z7fz
     ·have e22:b.tmps.getD 22 undef = .bool ok:=hdep 10 (by decide) (by decide) (by kernel_rfl)
      exact z7mz
    ·intro b w'
     refine z6uz ?_
     intro g w2 hg hx f
     exact z5gz
    ·intro b w' g hx e4 f hdep
     have e21:b.tmps.getD 21 undef = .agg #[.int .i64 rx, .int .i64 ru]:=hdep 9 (by decide) (by decide) (by kernel_rfl)
     refine zgz ?_
     refine w_astoreN Tryz.stPrep (.tmp 4) (.tmp 21) (us:=[.int .i64 rx, .int .i64 ru]) rfl rfl rfl e4 e21 f rfl rfl (by intro u hu;simp at hu;rcases hu with rfl|rfl <;> rfl) ?_
     intro w2 hm f2
     exact z4uz
    intro w8 x hx8 hv hc
    obtain ⟨g4,cs,eal,hg8,f4,rfl⟩:=hc
    have ek13:x 13 = .bool ok:=hv 13 (by decide) (by decide)
    simp only [List.foldl_cons,List.foldl_nil,eal,ek13]
    generalize x 0 = x100
    generalize x 1 = x101
    generalize x 2 = x102
    generalize x 3 = x103
    generalize x 4 = x104
    generalize x 5 = x105
    generalize x 6 = x106
    generalize x 7 = x107
    generalize x 8 = x108
    generalize x 9 = x109
    generalize x 10 = x110
    refine z1cz ?_
    clear hv eal ek13
    replace f3:=f3.ext hx8;replace hX:=hX.trans hx8;clear hx8;rw [hok'.out]
    go_wp2
    refine zmz ?_;intro wd hxd;have HC:=hC.out.ext (hX.trans hxd);have F3:=f3.ext hxd
    refine z14z ?_
    refine LinL.step (s:=(.val (.bool true))) [(27,some 4),(31,some 0),(25,some 6)] rfl (by kernel_rfl) (op_yes (reads:=[(27,some 4),(31,some 0)]) 2 25 6 true rfl rfl rfl (op_runs rfl fun σ w' hx hg=>⟨(.bool true),by have h27 : σ.tmps.getD 27 undef = .int .i64 d.fm:=hg.1;have h31 : σ.tmps.getD 31 undef = .int .i64 l:=hg.2.1;unfold Runs execOp;simp [Act.eval,h27,h31,go_sem,tl],rfl⟩)) ?_
    refine LinL.step (s:=(.val (.bool true))) [(25,some 7),(32,some 0)] rfl (by kernel_rfl) (op_runs rfl fun σ w' hx hg=>⟨_,runs_pick_t (ρ := σ.eval) (w:=w') (.tmp 25) (.tmp 32) (.const (.bool false)) rfl hg.1 hg.2.1,rfl⟩) ?_
    intro wN hxN
    refine z15z ?_
    replace hX:=hX.trans (hxd.trans hxN);replace f3:=f3.ext (hxd.trans hxN);clear hxd hxN HC F3
    go_wp2
    refine zmz ?_;intro wd hxd;have HC:=hC.out.ext (hX.trans hxd);have F0:=HC.obj;have F3:=f3.ext hxd
    refine Ph.gate 0 12 (by kernel_rfl) ?_
    refine z1tz ?_
    refine LinL.st [(34,some 0)] rfl opnl ?_
    refine LinL.st [(35,some 0)] rfl (opfb 6 6 6 p) ?_
    refine LinL.st [(36,some 0)] rfl (opfb 4 4 10 p) ?_
    refine LinL.st [(37,some 0)] rfl (opld (.map (some gp)) F0) ?_
    refine LinL.st [(3,none)] rfl (opmf g3 3 3) ?_
    refine LinL.st [(39,some 0)] rfl (opld (.int .i64 d.vw) F3) ?_
    refine LinL.st [(3,none)] rfl (opmf g3 4 4) ?_
    refine LinL.st [(41,some 0)] rfl (opld (.int .i64 d.vl) F3) ?_
    refine LinL.st [(3,none)] rfl (opmf g3 5 5) ?_
    refine LinL.st [(43,some 0)] rfl (opld (.int .i64 d.pr) F3) ?_
    refine LinL.step (s:=(.val (.agg #[.int .i64 d.vl, .int .i64 d.pr]))) [(42,some 2),(44,some 0)] rfl (by kernel_rfl) (op_runs rfl fun σ w' hx hg=>⟨_,runs_sbuild (ρ := σ.eval) (w:=w') Tryz.stPrepS [.int .i64 d.vl, .int .i64 d.pr] (ps:=#[(0, .tmp 42),(1, .tmp 44)]) rfl (by have h42 : σ.tmps.getD 42 undef = .int .i64 d.vl:=hg.1;have h44 : σ.tmps.getD 44 undef = .int .i64 d.pr:=hg.2.1;simp only [List.map_cons,List.map_nil,Act.eval,h42,h44,List.foldl_cons,List.foldl_nil,List.set_cons_zero,List.set_cons_succ]) (by have h42 : σ.tmps.getD 42 undef = .int .i64 d.vl:=hg.1;have h44 : σ.tmps.getD 44 undef = .int .i64 d.pr:=hg.2.1;intro p hp;simp at hp;rcases hp with rfl|rfl;exact ⟨by decide,by show (σ.tmps.getD 42 undef).cells = #[σ.tmps.getD 42 undef];rw [h42];exact rfl⟩;exact ⟨by decide,by show (σ.tmps.getD 44 undef).cells = #[σ.tmps.getD 44 undef];rw [h44];exact rfl⟩),rfl⟩) ?_
    intro wN hxN
    refine z7gz ?_
    refine w_mput Tryz.keyI Tryz.underlying64 _ _ _ rfl rfl rfl rfl rfl rfl (ownsMap_ext hpo.out (hX.trans (hxd.trans hxN))) hpn.out (Maps.keyOf_int_mk Tryz.underlying3 hvw64.out.wf) ?_;intro w9 hm9 o9
    refine z4tz ?_
    intro wM hxM
    refine zuz ?_
    have hCN:=HC.ext hxN
    have hCa:=hCN.propose (d:=c.setProp d.vw (d.vl,d.pr)) hm9 o9 (hpm.out.put d.vw hvr.out (d.vl,d.pr)) rfl
    have hsa:=((Stp.ofExt (lo:=1) (hi:=6) (hX.trans (hxd.trans hxN)) hC.out.bnd).trans (hCN.stpProp hm9)).trans (Stp.ofExt hxM hCa.bnd)
    go_wp2
    go_end0
    exact Keep.intro ⟨rfl,S,by rw [hfin.out];exact hCa.ext hxM,hsa⟩
   ·have tl:(d.fm == l) = false:=by simpa using hlm
    have hfin:=hide_ (show c.hear d.msv = c from by rw [hhear,if_neg fun q=>hlm (q.1.symm.trans hl0)])
    clear h hok hj hjn0 hjt hk hk3 hpn0 hpo0 hpm0 hl0 hhear hpp hrx hru hok1 hlm
    go_enter Tryz.func24,Tryz.ntmps24
    go_wp2_with ((first | (refine z1sz ?_;intro g3 w1 hg3 hx f3;replace hX:=hX.trans hx;clear hx) | refine z6xz ?_ | fail) <;> (try refine z0z ?_))
    refine wp_region_val [0,1,2,3,4,5,6,7,8,9,10,11,13] (fun i=>([13,14,15,16,17,18,19,20,12,21,22,4,0,5]:List Nat).getD i 0) (fun i x=>x = ([(.pointer (some ⟨p,0,none⟩)),(.pointer (some ⟨p,0,none⟩)),(.pointer (some ⟨p,6,none⟩)),(.pointer (some ⟨p,10,none⟩)),(.map (some gp)),(.pointer (some ⟨g3,3,none⟩)),(.int .i64 d.vw),(.tuple #[.agg #[.int .i64 rx, .int .i64 ru], .bool ok]),(.tuple #[.agg #[.int .i64 rx, .int .i64 ru], .bool ok]),(.agg #[.int .i64 rx, .int .i64 ru]),(.bool ok),undef,undef,(.bool ok)]:List Value).getD i undef) 11 12 [.int .i64 0, .int .i64 0] (fun cs=>cs = [.int .i64 rx, .int .i64 ru]) (by kernel_rfl) (by kernel_rfl) (by kernel_rfl) (by decide) (by decide) (by kernel_rfl) (by intro i hi;show _ < 87;revert i;decide) (by kernel_rfl) (by decide) (by kernel_rfl) ?_ ?_ ?_ ?_
    ·intro i hi ha b w' hx hout hdep
     rcases (show i = 0∨i = 1∨i = 2∨i = 3∨i = 4∨i = 5∨i = 6∨i = 7∨i = 8∨i = 9∨i = 10∨i = 13 by simp at hi;omega) with rfl|rfl|rfl|rfl|rfl|rfl|rfl|rfl|rfl|rfl|rfl|rfl
     ·have e0:b.tmps.getD 0 undef = .pointer (some ⟨p,0,none⟩):=hout 0 (by decide)
      exact z6tz
     ·have e13:b.tmps.getD 13 undef = .pointer (some ⟨p,0,none⟩):=hdep 0 (by decide) (by decide) (by kernel_rfl)
      refine zgz ?_
      refine w_nilC _ rfl rfl e13 ?_
      exact zaz
     ·have e14:b.tmps.getD 14 undef = .pointer (some ⟨p,0,none⟩):=hdep 1 (by decide) (by decide) (by kernel_rfl)
      refine zgz ?_
      refine z6gz ?_
      exact zaz
     ·have e15:b.tmps.getD 15 undef = .pointer (some ⟨p,6,none⟩):=hdep 2 (by decide) (by decide) (by kernel_rfl)
      refine zgz ?_
      refine z6bz ?_
      exact zaz
     ·have e16:b.tmps.getD 16 undef = .pointer (some ⟨p,10,none⟩):=hdep 3 (by decide) (by decide) (by kernel_rfl)
      refine zgz ?_
      refine z60z ?_
      exact zaz
     ·have e3:b.tmps.getD 3 undef = .pointer (some ⟨g3,0,none⟩):=hout 3 (by decide)
      exact z7hz
     ·have e18:b.tmps.getD 18 undef = .pointer (some ⟨g3,3,none⟩):=hdep 5 (by decide) (by decide) (by kernel_rfl)
      exact z72z
     ·have e17:b.tmps.getD 17 undef = .map (some gp):=hdep 4 (by decide) (by decide) (by kernel_rfl)
      have e19:b.tmps.getD 19 undef = .int .i64 d.vw:=hdep 6 (by decide) (by decide) (by kernel_rfl)
      refine zgz ?_
      refine z5hz ?_
      exact zaz
     ·have e20:b.tmps.getD 20 undef = .tuple #[.agg #[.int .i64 rx, .int .i64 ru], .bool ok]:=hdep 7 (by decide) (by decide) (by kernel_rfl)
      exact z7lz
     ·have e12:b.tmps.getD 12 undef = .tuple #[.agg #[.int .i64 rx, .int .i64 ru], .bool ok]:=hdep 8 (by decide) (by decide) (by kernel_rfl)
      exact z7fz
     ·have e12:b.tmps.getD 12 undef = .tuple #[.agg #[.int .i64 rx, .int .i64 ru], .bool ok]:=hdep 8 (by decide) (by decide) (by kernel_rfl)
      exact z7fz
     ·have e22:b.tmps.getD 22 undef = .bool ok:=hdep 10 (by decide) (by decide) (by kernel_rfl)
      exact z7mz
    ·intro b w'
     refine z6uz ?_
     intro g w2 hg hx f
     exact z5gz
    ·intro b w' g hx e4 f hdep
     have e21:b.tmps.getD 21 undef = .agg #[.int .i64 rx, .int .i64 ru]:=hdep 9 (by decide) (by decide) (by kernel_rfl)
     refine zgz ?_
     refine w_astoreN Tryz.stPrep (.tmp 4) (.tmp 21) (us:=[.int .i64 rx, .int .i64 ru]) rfl rfl rfl e4 e21 f rfl rfl (by intro u hu;simp at hu;rcases hu with rfl|rfl <;> rfl) ?_
     intro w2 hm f2
     exact z4uz
    intro w8 x hx8 hv hc
    obtain ⟨g4,cs,eal,hg8,f4,rfl⟩:=hc
    have ek13:x 13 = .bool ok:=hv 13 (by decide) (by decide)
    simp only [List.foldl_cons,List.foldl_nil,eal,ek13]
    generalize x 0 = x100
    generalize x 1 = x101
    generalize x 2 = x102
    generalize x 3 = x103
    generalize x 4 = x104
    generalize x 5 = x105
    generalize x 6 = x106
    generalize x 7 = x107
    generalize x 8 = x108
    generalize x 9 = x109
    generalize x 10 = x110
    refine z1cz ?_
    clear hv eal ek13
    replace f3:=f3.ext hx8;replace hX:=hX.trans hx8;clear hx8;rw [hok'.out]
    go_wp2
    refine zmz ?_;intro wd hxd;have HC:=hC.out.ext (hX.trans hxd);have F3:=f3.ext hxd
    refine z14z ?_
    refine LinL.step (s:=(.val (.bool false))) [(27,some 4),(31,some 0),(25,some 6)] rfl (by kernel_rfl) (op_yes (reads:=[(27,some 4),(31,some 0)]) 2 25 6 true rfl rfl rfl (op_runs rfl fun σ w' hx hg=>⟨(.bool false),by have h27 : σ.tmps.getD 27 undef = .int .i64 d.fm:=hg.1;have h31 : σ.tmps.getD 31 undef = .int .i64 l:=hg.2.1;unfold Runs execOp;simp [Act.eval,h27,h31,go_sem,tl],rfl⟩)) ?_
    refine LinL.step (s:=(.val (.bool false))) [(25,some 7),(32,some 0)] rfl (by kernel_rfl) (op_runs rfl fun σ w' hx hg=>⟨_,runs_pick_t (ρ := σ.eval) (w:=w') (.tmp 25) (.tmp 32) (.const (.bool false)) rfl hg.1 hg.2.1,rfl⟩) ?_
    intro wN hxN
    refine z15z ?_
    replace hX:=hX.trans (hxd.trans hxN);replace f3:=f3.ext (hxd.trans hxN);clear hxd hxN HC F3
    go_wp2
    go_end0
    exact z5oz
 ·-- a vote
  have hk45:d.kd = 4∨d.kd = 5:=hk.1
  have hvw64:=hide_ (show In64 d.vw from by have:=hk.2.2.1;unfold In64;show -9223372036854775808≤d.msv.vw∧d.msv.vw≤9223372036854775807;omega)
  have hkd64:=hide_ (show In64 d.kd from by unfold In64;omega)
  have hvl64:=hide_ (show In64 d.vl from by
   rcases hk.2.1 with e | e
   ·rw [show d.vl = -1 from e];exact ⟨by decide,by decide⟩
   ·exact NV.in64 e)
  have hfin:=hide_ (show c.hear d.msv = { c with T:=vadd c.t.length c.T d.kd d.vw j d.vl } from by
   unfold CoD.hear
   rw [if_neg (show ¬ d.msv.kd = 3 from fun e=>by have e':d.kd = 3:=e;omega),if_neg (show ¬ d.msv.kd = 6 from fun e=>by have e':d.kd = 6:=e;omega)]
   show ({ c with T:=vadd c.t.length c.T d.kd d.vw d.fm.toNat d.vl }:CoD) = _
   rw [hjt])
  have t3:(d.kd == 3) = false:=by simp;omega
  rcases hk45 with hk4 | hk4
  ·have t4:(d.kd == 4) = true:=by simp [hk4]
   clear h hok hj hjn0 hjt hk hk4
   go_enter Tryz.func24,Tryz.ntmps24
   go_wp2_with ((first | (refine z1sz ?_;intro g3 w1 hg3 hx f3;replace hX:=hX.trans hx;clear hx) | refine z6xz ?_ | fail) <;> (try refine z0z ?_))
   refine zmz ?_;intro wd hxd;have HC:=hC.out.ext (hX.trans hxd);have F0:=HC.obj;have F3:=f3.ext hxd
   refine Ph.gate 0 13 (by kernel_rfl) ?_
   refine z1tz ?_
   refine z26z ?_
   intro wN hxN
   refine z15z ?_
   refine z4xz ?_
   refine (TAdd_any (HC.ext hxN).tal (by omega) hkd64.out hvw64.out hf64.out hvl64.out).mono ?_;rintro e w4 ⟨X4,rfl,ht4,hu4,_⟩;refine ⟨_,rfl, ?_⟩
   refine z0z ?_
   show Ph Tryz.prog _ _ 14 _ _
   refine Ph.rest 14 0 (by kernel_rfl) ?_
   intro wM hxM
   refine zuz ?_
   rw [hfm.out,(addT_vadd _ _ _ _ _ _).1] at ht4
   obtain ⟨S1,hC1,hs1⟩:=(HC.ext hxN).vote hu4 ht4
   have hsa:=((Stp.ofExt (lo:=1) (hi:=6) (hX.trans (hxd.trans hxN)) hC.out.bnd).trans hs1).trans (Stp.ofExt hxM hC1.bnd)
   go_wp2
   go_end0
   exact Keep.intro ⟨rfl,S1,by rw [hfin.out];exact hC1.ext hxM,hsa⟩
  ·have t4:(d.kd == 4) = false:=by simp [hk4]
   have t5:(d.kd == 5) = true:=by simp [hk4]
   clear h hok hj hjn0 hjt hk hk4
   go_enter Tryz.func24,Tryz.ntmps24
   go_wp2_with ((first | (refine z1sz ?_;intro g3 w1 hg3 hx f3;replace hX:=hX.trans hx;clear hx) | refine z6xz ?_ | fail) <;> (try refine z0z ?_))
   refine zmz ?_;intro wd hxd;have HC:=hC.out.ext (hX.trans hxd);have F0:=HC.obj;have F3:=f3.ext hxd
   refine Ph.gate 0 13 (by kernel_rfl) ?_
   refine z1tz ?_
   refine z26z ?_
   intro wN hxN
   refine z15z ?_
   refine z4xz ?_
   refine (TAdd_any (HC.ext hxN).tal (by omega) hkd64.out hvw64.out hf64.out hvl64.out).mono ?_;rintro e w4 ⟨X4,rfl,ht4,hu4,_⟩;refine ⟨_,rfl, ?_⟩
   refine z0z ?_
   show Ph Tryz.prog _ _ 14 _ _
   refine Ph.rest 14 0 (by kernel_rfl) ?_
   intro wM hxM
   refine zuz ?_
   rw [hfm.out,(addT_vadd _ _ _ _ _ _).1] at ht4
   obtain ⟨S1,hC1,hs1⟩:=(HC.ext hxN).vote hu4 ht4
   have hsa:=((Stp.ofExt (lo:=1) (hi:=6) (hX.trans (hxd.trans hxN)) hC.out.bnd).trans hs1).trans (Stp.ofExt hxM hC1.bnd)
   go_wp2
   go_end0
   exact Keep.intro ⟨rfl,S1,by rw [hfin.out];exact hC1.ext hxM,hsa⟩
 ·-- what was decided
  have hk6:d.kd = 6:=hk.1
  have t3:(d.kd == 3) = false:=by simp [hk6]
  have t4:(d.kd == 4) = false:=by simp [hk6]
  have t5:(d.kd == 5) = false:=by simp [hk6]
  have t6:(d.kd == 6) = true:=by simp [hk6]
  obtain ⟨n,D,hn0,hso0,hsd0⟩:=h.sad
  have hso:=hide_ hso0
  have hsd:=hide_ hsd0
  have hsn:=hide_ (show n≤1000000 from by omega)
  have hin:=hide_ (show InR n w (some gs) c.said from ⟨n,D,Nat.le_refl _,hso0,hsd0.1⟩)
  obtain ⟨r,hr0⟩:∃ r,c.said j = r:=⟨_,rfl⟩
  have hfr:fat c.said d.fm = r:=by rw [hj,fat_nat];exact hr0
  obtain ⟨sx,hsx⟩:∃ x,r.getD 0 = x:=⟨_,rfl⟩
  have hhear:c.hear d.msv = if c.said j = none then { c with said:=fun i=>if i = j then some d.vl else c.said i } else c:=by
   unfold CoD.hear
   rw [if_neg (show ¬ d.msv.kd = 3 from fun e=>by have e':d.kd = 3:=e;omega),if_pos (show d.msv.kd = 6 from hk6)]
   show (if c.said d.fm.toNat = none then ({ c with said:=fun i=>if i = d.fm.toNat then some d.vl else c.said i }:CoD) else c) = _
   rw [hjt]
  cases r with
  | none =>
   have hsv:=hide_ (show (fat c.said d.fm).getD 0 = sx∧(fat c.said d.fm).isSome = false from by rw [hfr];exact ⟨hsx,rfl⟩)
   have hfin:=hide_ (show c.hear d.msv = _ from by rw [hhear,if_pos hr0])
   clear h hok hj hjn0 hjt hk hk6 hn0 hso0 hsd0 hr0 hfr hsx hhear
   go_enter Tryz.func24,Tryz.ntmps24
   go_wp2_with ((first | (refine z1sz ?_;intro g3 w1 hg3 hx f3;replace hX:=hX.trans hx;clear hx) | refine z6xz ?_ | fail) <;> (try refine z0z ?_))
   refine zmz ?_;intro wd hxd;have HC:=hC.out.ext (hX.trans hxd);have F0:=HC.obj;have F3:=f3.ext hxd
   refine Ph.rest 0 13 (by kernel_rfl) ?_
   refine z1tz ?_
   refine z3sz ?_
   refine LinL.step (s:=(.val (.tuple #[.int .i64 sx, .bool false]))) [(70,some 2),(72,some 0)] rfl (by kernel_rfl) (op_runs rfl fun σ w' hx hg=>⟨_,runs_ilookB (ρ := σ.eval) (w:=w') (.tmp 70) (.tmp 72) rfl hg.1 hg.2.1 hf64.out (hin.out.ext (hX.trans (hxd.trans hx))) hsv.out,rfl⟩) ?_
   refine LinL.st [(73,some 0)] rfl (opcp (.val (.tuple #[.int .i64 sx, .bool false]))) ?_
   refine z5xz ?_
   refine LinL.step (s:=(.val (.bool false))) [(65,some 1)] rfl (by kernel_rfl) (op_runs rfl fun σ w' hx hg=>⟨_,runs_extract (ρ := σ.eval) (w:=w') rfl hg.1 rfl,rfl⟩) ?_
   refine LinL.st [(74,some 1)] rfl (opcp (.val (.int .i64 sx))) ?_
   refine LinL.st [(75,some 1)] rfl (opcp (.val (.bool false))) ?_
   intro wN hxN
   refine z15z ?_
   replace hX:=hX.trans (hxd.trans hxN);replace f3:=f3.ext (hxd.trans hxN);clear hxd hxN HC F0 F3
   go_wp2
   refine zmz ?_;intro wd hxd;have HC:=hC.out.ext (hX.trans hxd);have F0:=HC.obj;have F3:=f3.ext hxd
   refine Ph.gate 0 9 (by kernel_rfl) ?_
   refine z1tz ?_
   refine LinL.st [(78,some 0)] rfl opnl ?_
   refine LinL.st [(79,some 0)] rfl (opfb 6 6 6 p) ?_
   refine LinL.st [(80,some 0)] rfl (opfb 5 5 11 p) ?_
   refine LinL.st [(81,some 0)] rfl (opld (.map (some gs)) F0) ?_
   refine LinL.st [(3,none)] rfl (opmf g3 1 1) ?_
   refine LinL.st [(83,some 0)] rfl (opld (.int .i64 d.fm) F3) ?_
   refine LinL.st [(3,none)] rfl (opmf g3 4 4) ?_
   refine LinL.st [(85,some 0)] rfl (opld (.int .i64 d.vl) F3) ?_
   intro wN hxN
   refine z7gz ?_
   refine w_mput Tryz.keyI Tryz.underlying65 _ _ _ rfl rfl rfl rfl rfl rfl (ownsMap_ext hso.out (hX.trans (hxd.trans hxN))) hsn.out (Maps.keyOf_int_mk Tryz.underlying3 hf64.out.wf) ?_;intro w9 hm9 o9
   show Ph Tryz.prog _ _ 10 _ _
   refine Ph.rest 10 0 (by kernel_rfl) ?_
   intro wM hxM
   refine zuz ?_
   rw [hfm.out] at o9
   have hCN:=HC.ext hxN
   have hCa:=hCN.say (d:={ c with said:=fun i=>if i = j then some d.vl else c.said i }) hm9 o9 ⟨hsd.out.1.put j d.vl,fun i hi=>by by_cases e:i = j;rw [e];exact hjn.out;exact hsd.out.2 i (by simpa [e] using hi)⟩ rfl
   have hsa:=((Stp.ofExt (lo:=1) (hi:=6) (hX.trans (hxd.trans hxN)) hC.out.bnd).trans (hCN.stpSay hm9)).trans (Stp.ofExt hxM hCa.bnd)
   go_wp2
   go_end0
   exact Keep.intro ⟨rfl,S,by rw [hfin.out];exact hCa.ext hxM,hsa⟩
  | some y =>
   have hsv:=hide_ (show (fat c.said d.fm).getD 0 = sx∧(fat c.said d.fm).isSome = true from by rw [hfr];exact ⟨hsx,rfl⟩)
   have hfin:=hide_ (show c.hear d.msv = c from by rw [hhear,if_neg (by rw [hr0];simp)])
   clear h hok hj hjn0 hjt hk hk6 hn0 hso0 hsd0 hr0 hfr hsx hhear
   go_enter Tryz.func24,Tryz.ntmps24
   go_wp2_with ((first | (refine z1sz ?_;intro g3 w1 hg3 hx f3;replace hX:=hX.trans hx;clear hx) | refine z6xz ?_ | fail) <;> (try refine z0z ?_))
   refine zmz ?_;intro wd hxd;have HC:=hC.out.ext (hX.trans hxd);have F0:=HC.obj;have F3:=f3.ext hxd
   refine Ph.rest 0 13 (by kernel_rfl) ?_
   refine z1tz ?_
   refine z3sz ?_
   refine LinL.step (s:=(.val (.tuple #[.int .i64 sx, .bool true]))) [(70,some 2),(72,some 0)] rfl (by kernel_rfl) (op_runs rfl fun σ w' hx hg=>⟨_,runs_ilookB (ρ := σ.eval) (w:=w') (.tmp 70) (.tmp 72) rfl hg.1 hg.2.1 hf64.out (hin.out.ext (hX.trans (hxd.trans hx))) hsv.out,rfl⟩) ?_
   refine LinL.st [(73,some 0)] rfl (opcp (.val (.tuple #[.int .i64 sx, .bool true]))) ?_
   refine z5xz ?_
   refine LinL.step (s:=(.val (.bool true))) [(65,some 1)] rfl (by kernel_rfl) (op_runs rfl fun σ w' hx hg=>⟨_,runs_extract (ρ := σ.eval) (w:=w') rfl hg.1 rfl,rfl⟩) ?_
   refine LinL.st [(74,some 1)] rfl (opcp (.val (.int .i64 sx))) ?_
   refine LinL.st [(75,some 1)] rfl (opcp (.val (.bool true))) ?_
   intro wN hxN
   refine z15z ?_
   replace hX:=hX.trans (hxd.trans hxN);replace f3:=f3.ext (hxd.trans hxN);clear hxd hxN HC F0 F3
   go_wp2
   go_end0
   exact z5oz
theorem w_actbuild2 {ops:Array Oper} {rest:List Oper} {o:Oper} {a:Act} {Q:Exit→Act→World→Prop} {w:World} (y x:Operand) {n:Int} {d:MsgD} {u:Value} (hgd:o.guard = none) (ho:o.op = .build 53 #[(0,y),(1,x)]) (hy:a.eval y = .int .i64 n) (hx:a.eval x = .agg (mRow d u).toArray)
  (k:wpList Tryz.prog ops Q rest (a.put o.dst (.agg (.int .i64 n :: mRow d u).toArray)) w):wpList Tryz.prog ops Q (o :: rest) a w:=by
 have hr:=run_actbuild n d u w
 refine wpList_runs hgd ?_ k
 unfold Runs execOp
 simp [ho,hx,hy,hr]
def CoD.told (c:CoD) (m:MsV):List AcV:=if m.kd = 6 then [] else [⟨m.fm,⟨6,c.me,m.ix,0,c.dec.getD m.ix.toNat 0,0⟩⟩]
theorem tell_core {S:Nat→Nat} {w:World} {p q gp gs:Nat} {sv dv:Value} {c:CoD} {d:MsgD} {u:Value} (h:CorW S w p sv dv q gp gs c) (h0:0≤d.ix∧d.ix < (c.dec.length:Int)) :
  Calls Tryz.prog 23 #[.pointer (some ⟨p,0,none⟩), .agg (mRow d u).toArray] w fun e w' => ∃ ov,e = .returned ov∧Ext w w'∧RowN (fun k=>w.heap.size≤k) w' 53 14 ov ((c.told d.msv).map acRow):=by
 refine z2rz ?_
 have hC:=hide_ h
 have hX:=Ext.refl w
 by_cases hk:d.kd = 6
 ·have t6:(d.kd == 6) = true:=by simp [hk]
  have hfin:=hide_ (show c.told d.msv = [] from if_pos hk)
  clear h h0 hk
  go_enter Tryz.func23,Tryz.ntmps23
  go_wp2_with ((first | (refine z1sz ?_;intro g3 w1 hg3 hx f3;replace hX:=hX.trans hx;clear hx) | refine z6xz ?_ | fail) <;> (try refine z0z ?_))
  go_ret
  exact Keep.intro ⟨_,rfl,hX,by rw [hfin.out];exact RowN.nil _ _ _⟩
 ·have t6:(d.kd == 6) = false:=by simp [hk]
  have t0:decide (d.ix < 0) = false:=decide_eq_false (by omega)
  obtain ⟨n,hn0⟩:∃ n:Nat,d.ix = (n:Int):=⟨d.ix.toNat,by omega⟩
  have hnl0:n < c.dec.length:=by omega
  obtain ⟨x,hx0⟩:∃ x,c.dec[n] = x:=⟨_,rfl⟩
  have hnx:=hide_ hn0
  have hnl:=hide_ hnl0
  have hxn:=hide_ (show c.dec[n]'(hnl.out) = x from hx0)
  have hfin:=hide_ (show c.told d.msv = [⟨d.fm,(⟨6,c.me,d.ix,0,x,0⟩:MsV)⟩] from by
   unfold CoD.told
   rw [if_neg (show ¬ d.msv.kd = 6 from hk)]
   show ([⟨d.fm,⟨6,c.me,d.ix,0,c.dec.getD d.ix.toNat 0,0⟩⟩]:List AcV) = _
   rw [show d.ix.toNat = n by omega,List.getD_eq_getElem?_getD,List.getElem?_eq_getElem hnl0,hx0]
   rfl)
  clear h h0 hk hn0 hnl0 hx0
  go_enter Tryz.func23,Tryz.ntmps23
  go_wp2_with ((first | (refine z1sz ?_;intro g3 w1 hg3 hx f3;replace hX:=hX.trans hx;clear hx) | refine z6xz ?_ | fail) <;> (try refine z0z ?_))
  refine zmz ?_;intro wd hxd;have HC:=hC.out.ext (hX.trans hxd);have F0:=HC.obj;have DS:=HC.dec.sl;have F3:=f3.ext hxd
  refine Ph.gate 0 16 (by kernel_rfl) ?_
  refine z1tz ?_
  refine LinL.st [(14,some 0)] rfl opnl ?_
  refine LinL.st [(15,some 0)] rfl (opfb 0 0 0 p) ?_
  refine LinL.st [(16,some 0)] rfl (opld (.int .i64 (c.me:Nat)) F0) ?_
  refine LinL.st [(3,none)] rfl (opmf g3 2 2) ?_
  refine LinL.st [(18,some 0)] rfl (opld (.int .i64 d.ix) F3) ?_
  refine z1tz ?_
  refine LinL.st [(20,some 0)] rfl opnl ?_
  refine LinL.st [(21,some 0)] rfl (opfb 4 4 4 p) ?_
  refine LinL.st [(22,some 0)] rfl (opld (dv) F0) ?_
  refine LinL.st [(3,none)] rfl (opmf g3 2 2) ?_
  refine LinL.st [(24,some 0)] rfl (opld (.int .i64 d.ix) F3) ?_
  refine LinL.step (s:=(Sp.ptr (.int .i64 (x)))) [(23,some 2),(25,some 0)] rfl (by kernel_rfl) (op_runs rfl fun σ w' hx hg=>rptri (ρ := σ.eval) (w:=w') (.tmp 23) (.tmp 25) rfl hg.1 (DS.ext hx) n (by show σ.tmps.getD 25 undef = _;rw [hg.2.1,hnx.out]) hnl.out hxn.out) ?_
  refine LinL.step (s:=(.val (.int .i64 (x:Int)))) [(26,some 0)] rfl (by kernel_rfl) (op_runs rfl fun σ w' hx hg=>⟨_,runs_load (ρ := σ.eval) (w:=w') (.tmp 26) rfl Tryz.underlying3 rfl hg.1,rfl⟩) ?_
  refine LinL.step (s:=(.val (.agg #[.int .i64 6, .int .i64 (c.me:Nat), .int .i64 d.ix, .int .i64 0, .int .i64 x, .int .i64 0, .int .i64 0, .int .i64 0, .int .i64 0, .int .i64 0, .int .i64 0, .int .i64 0, .slice none 0 0]))) [(17,some 10),(19,some 8),(27,some 0)] rfl (by kernel_rfl) (op_runs rfl fun σ w' hx hg=>⟨_,runs_mbuild (ρ := σ.eval) (w:=w') [.int .i64 6, .int .i64 (c.me:Nat), .int .i64 d.ix, .int .i64 0, .int .i64 x, .int .i64 0, .int .i64 0, .int .i64 0, .int .i64 0, .int .i64 0, .int .i64 0, .int .i64 0, .slice none 0 0] (ps:=#[(0, .const (.int .i64 6)),(1, .tmp 17),(2, .tmp 19),(4, .tmp 27)]) rfl (by have h17 : σ.tmps.getD 17 undef = .int .i64 (c.me:Nat):=hg.1;have h19 : σ.tmps.getD 19 undef = .int .i64 d.ix:=hg.2.1;have h27 : σ.tmps.getD 27 undef = .int .i64 (x:Int):=hg.2.2.1;simp only [List.map_cons,List.map_nil,Act.eval,h17,h19,h27,mZero,List.foldl_cons,List.foldl_nil,List.set_cons_zero,List.set_cons_succ]) (by have h17 : σ.tmps.getD 17 undef = .int .i64 (c.me:Nat):=hg.1;have h19 : σ.tmps.getD 19 undef = .int .i64 d.ix:=hg.2.1;have h27 : σ.tmps.getD 27 undef = .int .i64 (x:Int):=hg.2.2.1;intro p hp;simp at hp;rcases hp with rfl|rfl|rfl|rfl;exact ⟨by decide,rfl⟩;exact ⟨by decide,by show (σ.tmps.getD 17 undef).cells = #[σ.tmps.getD 17 undef];rw [h17];exact rfl⟩;exact ⟨by decide,by show (σ.tmps.getD 19 undef).cells = #[σ.tmps.getD 19 undef];rw [h19];exact rfl⟩;exact ⟨by decide,by show (σ.tmps.getD 27 undef).cells = #[σ.tmps.getD 27 undef];rw [h27];exact rfl⟩),rfl⟩) ?_
  refine LinL.step (s:=(Sp.fs wd.heap.size mZero)) [] rfl (by kernel_rfl) (op_agalloc Tryz.agMsg (Nat.le_refl _) rfl rfl) ?_
  intro wN hxN
  simp only [Fin',Sp.ptr,Sp.fs,List.reverse_cons,List.reverse_nil,List.nil_append,List.cons_append,List.drop_zero,List.take_succ_cons,List.take_zero]
  intro q26 hq26 q5 hq5
  refine z0z ?_
  obtain ⟨g5,rfl,hg5,f5⟩:=hq5
  refine zgz ?_
  refine w_astoreN Tryz.stMsg (us:=[.int .i64 6, .int .i64 (c.me:Nat), .int .i64 d.ix, .int .i64 0, .int .i64 x, .int .i64 0, .int .i64 0, .int .i64 0, .int .i64 0, .int .i64 0, .int .i64 0, .int .i64 0, .slice none 0 0]) _ _ rfl rfl rfl rfl rfl f5 rfl rfl (m_one (d:=⟨6,c.me,d.ix,0,x,0,TxD.zero,BlkD.zero⟩) rfl) ?_;intro w9 hm9 f9
  show Ph Tryz.prog _ _ 17 _ _
  refine Ph.rest 17 0 (by kernel_rfl) ?_
  intro wM hxM
  refine zuz ?_
  have f5M:Fs wM g5 (mRow (⟨6,c.me,d.ix,0,x,0⟩:MsV).msg (.slice none 0 0)):=f9.ext hxM
  have hne:=hide_ (show ¬ g3 = g5 from fun e=>by have:=f3.lt;have:=hxd.size;omega)
  replace f3:=((f3.ext (hxd.trans hxN)).mod hm9 hne.out).ext hxM
  replace hX:=(hm9.after (hX.trans (hxd.trans hxN)) fun j e=>e ▸ Nat.le_trans hX.size (Nat.le_trans hxd.size hg5)).trans hxM
  clear hxd hxN hxM hm9 f9 f5 HC F0 DS F3 hg5
  go_wp2_with ((first | refine z6xz ?_ | ((with_reducible refine at_load ?_);refine w_loadN Tryz.stMsg _ (mRow (⟨6,c.me,d.ix,0,x,0⟩:MsV).msg (.slice none 0 0)) rfl rfl rfl f5M rfl mself_at ?_) | ((with_reducible refine at_sbuild ?_);refine w_actbuild2 (.tmp 30) (.tmp 31) (n:=d.fm) (d:=(⟨6,c.me,d.ix,0,x,0⟩:MsV).msg) (u := .slice none 0 0) rfl rfl rfl rfl ?_) | ((with_reducible refine at_lit ?_);refine w_nnew Tryz.elActN [acRow ⟨d.fm,(⟨6,c.me,d.ix,0,x,0⟩:MsV)⟩] rfl rfl rfl (by simp [acRow_len]) rfl (by omega) ?_;intro v2 w2 B hB1 hB2 hx2 hn2) | fail) <;> (try refine z0z ?_))
  go_ret
  exact Keep.intro ⟨_,rfl,hX.trans hx2,by rw [hfin.out];exact hn2.mono fun k hk=>Nat.le_trans hX.size (Nat.le_trans hB1 hk.1)⟩
end Go.Proofs.YtdoeoncmhaihbaaGreat
