/- All that can be done, the first thing that can be each time. · A message comes; a tick comes. · One that is behind is told; a message comes. · A message comes. · A tick comes. · A new core. · The contract of neaptideref01.SameInts, of two slices that read alike: true. · The chapter's example. · What a core is bound to. -/
import Derived.Test.YtajkjiegcmpjaaaChkT6
import Derived.ScopeJumps
import Derived.WalkMore
import Derived.Test.YtajkjiegcmpjaaaPk05
import Derived.Test.YtajkjiegcmpjaaaPk10
namespace Go.Proofs.Ytajkjiegcmpjaaa
set_option maxHeartbeats 3200000
set_option maxRecDepth 100000
open Go.RowKit
noncomputable def leastOf (p : Nat → Prop) : Nat := Classical.epsilon fun n => p n ∧ ∀ m, p m → n ≤ m
theorem leastOf_spec {p : Nat → Prop} (h : ∃ n, p n) : p (leastOf p) ∧ ∀ m, p m → leastOf p ≤ m := by
  refine Classical.epsilon_spec (p := fun n => p n ∧ ∀ m, p m → n ≤ m) ?_
  obtain ⟨n, hn⟩ := h
  induction n using Nat.strongRecOn with
  | _ n ih =>
    by_cases hq : ∃ m, m < n ∧ p m
    · obtain ⟨m, h1, h2⟩ := hq
      exact ih m h1 h2
    · exact ⟨n, hn, fun m hm => Nat.le_of_not_lt fun h => hq ⟨m, h, hm⟩⟩
theorem wp_label_ghost {P : Program} {R : Code} {a : Act} {w : World} {Q : Exit → Act → World → Prop} (l : Nat) (J : Nat → Act → World → Prop) (n0 : Nat) (h0 : J n0 a w)
    (pass : ∀ n a w, J n a w → R.wp P (Exit.jump l (fun a' w' => ∃ m, m < n ∧ J m a' w') Q) a w) : (Code.scope ((Code.label l).seq R)).wp P Q a w := by
  refine wp_scope_jumps l (fun a w => ∃ n, J n a w) (fun a w => leastOf fun n => J n a w) (rest := Code.skip.seq R) (by simp [findLabel]) ?_ ?_
  · refine wp_seq (wp_label ?_)
    refine Code.wp_mono (fun e a w h => ?_) (pass n0 a w h0)
    cases e with
    | goto l' => obtain ⟨h1, m, _, h2⟩ := h; exact ⟨h1, m, h2⟩
    | _ => exact h
  · intro a w hJ
    obtain ⟨h1, _⟩ := leastOf_spec hJ
    refine wp_seq (wp_skip ?_)
    refine Code.wp_mono (fun e a w h => ?_) (pass _ a w h1)
    cases e with
    | goto l' =>
      obtain ⟨q1, m, q2, q3⟩ := h
      exact ⟨q1, ⟨m, q3⟩, Nat.lt_of_le_of_lt ((leastOf_spec ⟨m, q3⟩).2 m q3) q2⟩
    | _ => exact h
theorem step1_eq (c : CoD) (kn : List Int) (h : ¬ 1000 < c.dec.length) (hs : 0 ≤ c.step ∧ c.step ≤ 3) : c.step1 kn = (c.agreed.map c.conclude).or (c.cat1.or ((c.pre1 kn).or ((c.com1 kn).or (c.rev1 kn)))) := by
  unfold CoD.step1
  rw [if_neg h]
  cases c.agreed with
  | some v => rfl
  | none =>
    simp only [Option.map_none, Option.none_or]
    unfold CoD.cat1 CoD.pre1 CoD.com1 CoD.rev1 CoD.step45
    by_cases h0 : c.step = 0
    · rw [if_pos h0, if_pos (show c.step = 0 ∨ c.T.aheadOf c.t c.view ≤ c.view from .inl h0), if_neg (by omega), if_neg (by omega), if_neg (by omega)]; rfl
    · rw [if_neg h0]
      by_cases ha : c.view < c.T.aheadOf c.t c.view
      · rw [if_pos ha, if_neg (by omega)]; rfl
      · rw [if_neg ha, if_pos (show c.step = 0 ∨ c.T.aheadOf c.t c.view ≤ c.view from .inr (by omega))]
        simp only [Option.none_or]
        by_cases h1 : c.step = 1
        · rw [if_pos h1, if_pos h1, if_neg (by omega), if_neg (by omega)]
          cases c.step3 kn <;> rfl
        · rw [if_neg h1, if_neg h1]
          simp only [Option.none_or]
          have h23 : c.step = 2 ∨ c.step = 3 := by omega
          cases c.T.mostOf c.t 4 c.view with
          | none => rcases h23 with e | e <;> rw [e] <;> rfl
          | some x =>
            simp only
            rcases h23 with e | e
            · rw [e]
              simp only [if_true]
              rw [if_neg (show ¬ (2 : Int) = 3 by decide), Option.or_none]
            · rw [e]
              simp only [if_true]
              rw [if_neg (show ¬ (3 : Int) = 2 by decide), if_neg (show ¬ (3 : Int) = 2 by decide), Option.none_or]
theorem castTo_len (c : CoD) (k x s : Int) : ((c.cast k x).to s).out.length ≤ c.out.length + 1 := by
  unfold CoD.cast CoD.to
  split
  · simp
  · simp
theorem enter_len (c : CoD) (v : Int) : (c.enter v).out.length ≤ c.out.length + 1 := by
  unfold CoD.enter
  simp only
  split
  · unfold CoD.send CoD.setProp CoD.to; simp
  · unfold CoD.to; simp
theorem step1_len {c d : CoD} {kn : List Int} (h : c.step1 kn = some d) : d.out.length ≤ c.out.length + 1 := by
  unfold CoD.step1 at h
  split at h
  · cases h
  split at h
  · injection h with h; subst h; unfold CoD.conclude CoD.rest; simp
  split at h
  · cases h
  split at h
  · injection h with h; subst h; exact enter_len _ _
  split at h
  · unfold CoD.step3 at h
    split at h
    · cases h
    · split at h
      · injection h with h; subst h; exact castTo_len _ _ _ _
      · cases h
  · unfold CoD.step45 at h
    split at h
    · cases h
    · split at h
      · split at h
        · injection h with h; subst h
          unfold CoD.comm
          refine Nat.le_trans (castTo_len _ _ _ _) ?_
          unfold CoD.lock; split <;> simp
        · cases h
      · split at h
        · injection h with h; subst h; unfold CoD.valid; simp
        · cases h
theorem pr_in64 {p w : Int} (h : -1 ≤ p ∧ p < w) (k : 0 ≤ w ∧ w ≤ 1000) : In64 p := by unfold In64; omega
theorem dec_room {n : Nat} (h : n ≤ 1001) : (n + 1) * 8 ≤ 140737488355328 := by omega
theorem room_of {a b m n K : Nat} (h : a + m ≤ b + n) (k : (b + n + 1) * 128 ≤ K) : (a + 1) * 128 ≤ K := Nat.le_trans (Nat.mul_le_mul_right 128 (by omega)) k
theorem room_step {a b m n L : Nat} (h : b ≤ a + 1) (k : n < m) (l : a + m ≤ L) : b + n ≤ L := by omega
theorem NV.in64 {x : Int} (h : NV x) : In64 x := by
  rcases h with rfl | h
  · unfold In64; omega
  · have := MsgD.nm_le h; unfold In64; omega
theorem settle_turn {S : Nat → Nat} {w : World} {tb p q gp gs : Nat} {kv ov sv dv : Value} {kn : List Int} {c : CoD} {i0 : Int} (h : TrnW S w tb p kv ov sv dv q gp gs kn c) (hsp0 : Spk NV i0 c) (hlen0 : (c.out.length + c.mu + 1) * 128 ≤ 140737488355328) :
    Calls Try.prog 42 #[.pointer (some ⟨tb, 0, none⟩)] w fun e w' => e = .returned (.tuple #[]) ∧ ∃ S', Trn S' w' tb p kv kn (c.settle kn) ∧ Stp 1 8 S S' w w' := by
  refine z2cz ?_
  have hT0 := hide_ h
  have hlen := hide_ hlen0
  have hsp00 := hide_ hsp0
  clear h hlen0 hsp0
  go_enter Try.func42, Try.ntmps42
  refine wp_label_ghost 0 (fun n a' w' => ∃ (d : CoD) (u2 u3 u4 u5 u6 u7 u8 u9 u10 u11 u12 u13 u14 u15 u16 u17 u18 u19 u20 u21 u22 u23 u24 : Value) (S3 : Nat → Nat) (ov3 sv3 dv3 : Value) (q3 gp3 gs3 : Nat), a' = { tmps := #[.pointer (some ⟨tb, 0, none⟩), undef, u2, u3, u4, u5, u6, u7, u8, u9, u10, u11, u12, u13, u14, u15, u16, u17, u18, u19, u20, u21, u22, u23, u24], defers := [] } ∧ TrnW S3 w' tb p kv ov3 sv3 dv3 q3 gp3 gs3 kn d ∧ Spk NV i0 d ∧ d.settle kn = c.settle kn ∧ d.mu = n ∧ d.out.length + d.mu ≤ c.out.length + c.mu ∧ Stp 1 8 S S3 w w') c.mu
    ⟨c, undef, undef, undef, undef, undef, undef, undef, undef, undef, undef, undef, undef, undef, undef, undef, undef, undef, undef, undef, undef, undef, undef, undef, S, ov, sv, dv, q, gp, gs, rfl, hT0.out, hsp00.out, rfl, rfl, Nat.le_refl _, Stp.refl hT0.out.bnd⟩ ?_
  rintro n a' w' ⟨d, u2, u3, u4, u5, u6, u7, u8, u9, u10, u11, u12, u13, u14, u15, u16, u17, u18, u19, u20, u21, u22, u23, u24, S3, ov3, sv3, dv3, q3, gp3, gs3, rfl, hTd, hspd, hset0, rfl, hbo0, hS0⟩
  have hX := Ext.refl w'
  have hl1 := hide_ (show (d.out.length + 1) * 128 ≤ 140737488355328 from room_of hbo0 hlen.out)
  have hA := hspd.1
  have hdl := hide_ (show (d.dec.length + 1) * 8 ≤ 140737488355328 from dec_room hA.dl)
  have hvw := hide_ hA.vw.1
  have hvr := hide_ hA.rv
  have hpN := hide_ (show ∀ w p, d.prop w = some p → In64 p.1 ∧ In64 p.2 from fun w p hp => by
    obtain ⟨_, _, _, _, hD⟩ := hTd.cor.prp
    have h1 := hD.2.2 w (by rw [hp]; simp)
    have h2 := hA.pr w p hp
    exact ⟨NV.in64 h2.1, pr_in64 h2.2 h1⟩)
  have hmN := hide_ (show ∀ x, d.T.mostOf d.t 4 d.view = some x → In64 x from fun x hx => by
    rcases hA.mostN hx with e | e
    · rw [e]; exact ⟨by decide, by decide⟩
    · exact NV.in64 e)
  have hS := hS0
  have hT := hide_ hTd
  have hset := hide_ hset0
  have hbo := hide_ hbo0
  have hsp := hide_ hspd
  obtain ⟨o, ho⟩ : ∃ o, decide (1000 < d.dec.length) = o := ⟨_, rfl⟩
  have hov := hide_ ho
  cases o with
  | true =>
    have hfin := hide_ (show c.settle kn = d from by
      rw [← hset0]
      refine settle_none ?_
      unfold CoD.step1
      rw [if_pos (of_decide_eq_true ho)])
    clear hTd hspd hset0 hbo0 hS0 hA ho
    go_wp2_with ((first | go_big_skip | (go_at_call 38; refine (isOver_core hT.out.cor hov.out).mono ?_; rintro e w2 ⟨rfl, hx⟩; replace hS := hS.trans (Stp.ofExt hx hT.out.bnd); replace hT := hide_ (hT.out.ext hx); clear hx) | refine z1kz ?_ | refine znz ?_ | fail) <;> (try refine z0z ?_))
    simp only [Exit.jump]
    go_end0
    exact Keep.intro ⟨rfl, _, ⟨_, _, _, _, _, _, by rw [hfin.out]; exact hT.out⟩, hS⟩
  | false =>
    have hstep := step1_eq d kn (of_decide_eq_false ho) hA.rs
    have hnext : ∀ e2, d.step1 kn = some e2 → e2.mu < d.mu ∧ Spk NV i0 e2 ∧ e2.settle kn = c.settle kn ∧ e2.out.length + e2.mu ≤ c.out.length + c.mu := fun e2 h2 => by
      have h3 := mu_step1 hA h2
      have h4 := step1_len h2
      exact ⟨h3, spk_step1 hspd NV.zero h2, by rw [← hset0, settle_some hspd NV.zero h2], room_step h4 h3 hbo0⟩
    obtain ⟨r1, e1⟩ : ∃ r, d.agreed.map d.conclude = r := ⟨_, rfl⟩
    obtain ⟨r2, e2'⟩ : ∃ r, d.cat1 = r := ⟨_, rfl⟩
    obtain ⟨r3, e3⟩ : ∃ r, d.pre1 kn = r := ⟨_, rfl⟩
    obtain ⟨r4, e4⟩ : ∃ r, d.com1 kn = r := ⟨_, rfl⟩
    obtain ⟨r5, e5⟩ : ∃ r, d.rev1 kn = r := ⟨_, rfl⟩
    rw [e1, e2', e3, e4, e5] at hstep
    have hr1 := hide_ e1
    have hr2 := hide_ e2'
    have hr3 := hide_ e3
    have hr4 := hide_ e4
    have hr5 := hide_ e5
    clear e1 e2' e3 e4 e5
    cases r1 with
    | some e2 =>
      obtain ⟨m1, m2, m3, m4⟩ := hnext e2 hstep
      have hmu := hide_ m1
      have hsp2 := hide_ m2
      have hset2 := hide_ m3
      have hbo2 := hide_ m4
      clear hTd hspd hset0 hbo0 hS0 hA ho hstep hnext m1 m2 m3 m4
      go_wp2_with ((first | go_big_skip | (go_at_call 38; refine (isOver_core hT.out.cor hov.out).mono ?_; rintro e w2 ⟨rfl, hx⟩; replace hS := hS.trans (Stp.ofExt hx hT.out.bnd); replace hT := hide_ (hT.out.ext hx); clear hx) | (refine z2jz ?_; go_at_call 54; refine (decide_turn hT.out hl1.out hdl.out hr1.out).mono ?_; rintro e w3 ⟨rfl, S4, ⟨ov4, sv4, dv4, q4, gp4, gs4, hT4⟩, hs4⟩; replace hS := hS.trans hs4; have hT4' : TrnW S4 w3 tb p kv ov4 sv4 dv4 q4 gp4 gs4 kn e2 := hT4; replace hT := hide_ hT4'; clear hT4 hT4' hs4) | refine z1kz ?_ | refine znz ?_ | fail) <;> (try refine z0z ?_))
      go_step3
      exact z24z
    | none =>
      cases r2 with
      | some e2 =>
        obtain ⟨m1, m2, m3, m4⟩ := hnext e2 hstep
        have hmu := hide_ m1
        have hsp2 := hide_ m2
        have hset2 := hide_ m3
        have hbo2 := hide_ m4
        clear hTd hspd hset0 hbo0 hS0 hA ho hstep hnext m1 m2 m3 m4
        go_wp2_with ((first | go_big_skip | (go_at_call 38; refine (isOver_core hT.out.cor hov.out).mono ?_; rintro e w2 ⟨rfl, hx⟩; replace hS := hS.trans (Stp.ofExt hx hT.out.bnd); replace hT := hide_ (hT.out.ext hx); clear hx) | (refine z2jz ?_; go_at_call 54; refine (decide_turn hT.out hl1.out hdl.out hr1.out).mono ?_; rintro e w3 ⟨rfl, S4, ⟨ov4, sv4, dv4, q4, gp4, gs4, hT4⟩, hs4⟩; replace hS := hS.trans hs4; have hT4' : TrnW S4 w3 tb p kv ov4 sv4 dv4 q4 gp4 gs4 kn d := hT4; replace hT := hide_ hT4'; clear hT4 hT4' hs4) | (refine z2jz ?_; go_at_call 55; refine (catchUp_turn hT.out hvw.out hl1.out hr2.out).mono ?_; rintro e w3 ⟨rfl, S4, ⟨ov4, sv4, dv4, q4, gp4, gs4, hT4⟩, hs4⟩; replace hS := hS.trans hs4; have hT4' : TrnW S4 w3 tb p kv ov4 sv4 dv4 q4 gp4 gs4 kn e2 := hT4; replace hT := hide_ hT4'; clear hT4 hT4' hs4) | refine z1kz ?_ | refine znz ?_ | fail) <;> (try refine z0z ?_))
        go_step3
        exact z24z
      | none =>
        cases r3 with
        | some e2 =>
          obtain ⟨m1, m2, m3, m4⟩ := hnext e2 hstep
          have hmu := hide_ m1
          have hsp2 := hide_ m2
          have hset2 := hide_ m3
          have hbo2 := hide_ m4
          clear hTd hspd hset0 hbo0 hS0 hA ho hstep hnext m1 m2 m3 m4
          go_wp2_with ((first | go_big_skip | (go_at_call 38; refine (isOver_core hT.out.cor hov.out).mono ?_; rintro e w2 ⟨rfl, hx⟩; replace hS := hS.trans (Stp.ofExt hx hT.out.bnd); replace hT := hide_ (hT.out.ext hx); clear hx) | (refine z2jz ?_; go_at_call 54; refine (decide_turn hT.out hl1.out hdl.out hr1.out).mono ?_; rintro e w3 ⟨rfl, S4, ⟨ov4, sv4, dv4, q4, gp4, gs4, hT4⟩, hs4⟩; replace hS := hS.trans hs4; have hT4' : TrnW S4 w3 tb p kv ov4 sv4 dv4 q4 gp4 gs4 kn d := hT4; replace hT := hide_ hT4'; clear hT4 hT4' hs4) | (refine z2jz ?_; go_at_call 55; refine (catchUp_turn hT.out hvw.out hl1.out hr2.out).mono ?_; rintro e w3 ⟨rfl, S4, ⟨ov4, sv4, dv4, q4, gp4, gs4, hT4⟩, hs4⟩; replace hS := hS.trans hs4; have hT4' : TrnW S4 w3 tb p kv ov4 sv4 dv4 q4 gp4 gs4 kn d := hT4; replace hT := hide_ hT4'; clear hT4 hT4' hs4) | (refine z2jz ?_; go_at_call 56; refine (prepare_turn hT.out hvr.out hpN.out hl1.out hr3.out).mono ?_; rintro e w3 ⟨rfl, S4, ⟨ov4, sv4, dv4, q4, gp4, gs4, hT4⟩, hs4⟩; replace hS := hS.trans hs4; have hT4' : TrnW S4 w3 tb p kv ov4 sv4 dv4 q4 gp4 gs4 kn e2 := hT4; replace hT := hide_ hT4'; clear hT4 hT4' hs4) | refine z1kz ?_ | refine znz ?_ | fail) <;> (try refine z0z ?_))
          go_step3
          exact z24z
        | none =>
          cases r4 with
          | some e2 =>
            obtain ⟨m1, m2, m3, m4⟩ := hnext e2 hstep
            have hmu := hide_ m1
            have hsp2 := hide_ m2
            have hset2 := hide_ m3
            have hbo2 := hide_ m4
            clear hTd hspd hset0 hbo0 hS0 hA ho hstep hnext m1 m2 m3 m4
            go_wp2_with ((first | go_big_skip | (go_at_call 38; refine (isOver_core hT.out.cor hov.out).mono ?_; rintro e w2 ⟨rfl, hx⟩; replace hS := hS.trans (Stp.ofExt hx hT.out.bnd); replace hT := hide_ (hT.out.ext hx); clear hx) | (refine z2jz ?_; go_at_call 54; refine (decide_turn hT.out hl1.out hdl.out hr1.out).mono ?_; rintro e w3 ⟨rfl, S4, ⟨ov4, sv4, dv4, q4, gp4, gs4, hT4⟩, hs4⟩; replace hS := hS.trans hs4; have hT4' : TrnW S4 w3 tb p kv ov4 sv4 dv4 q4 gp4 gs4 kn d := hT4; replace hT := hide_ hT4'; clear hT4 hT4' hs4) | (refine z2jz ?_; go_at_call 55; refine (catchUp_turn hT.out hvw.out hl1.out hr2.out).mono ?_; rintro e w3 ⟨rfl, S4, ⟨ov4, sv4, dv4, q4, gp4, gs4, hT4⟩, hs4⟩; replace hS := hS.trans hs4; have hT4' : TrnW S4 w3 tb p kv ov4 sv4 dv4 q4 gp4 gs4 kn d := hT4; replace hT := hide_ hT4'; clear hT4 hT4' hs4) | (refine z2jz ?_; go_at_call 56; refine (prepare_turn hT.out hvr.out hpN.out hl1.out hr3.out).mono ?_; rintro e w3 ⟨rfl, S4, ⟨ov4, sv4, dv4, q4, gp4, gs4, hT4⟩, hs4⟩; replace hS := hS.trans hs4; have hT4' : TrnW S4 w3 tb p kv ov4 sv4 dv4 q4 gp4 gs4 kn d := hT4; replace hT := hide_ hT4'; clear hT4 hT4' hs4) | (refine z2jz ?_; go_at_call 57; refine (commit_turn hT.out hvr.out hmN.out hl1.out hr4.out).mono ?_; rintro e w3 ⟨rfl, S4, ⟨ov4, sv4, dv4, q4, gp4, gs4, hT4⟩, hs4⟩; replace hS := hS.trans hs4; have hT4' : TrnW S4 w3 tb p kv ov4 sv4 dv4 q4 gp4 gs4 kn e2 := hT4; replace hT := hide_ hT4'; clear hT4 hT4' hs4) | refine z1kz ?_ | refine znz ?_ | fail) <;> (try refine z0z ?_))
            go_step3
            exact z24z
          | none =>
            cases r5 with
            | some e2 =>
              obtain ⟨m1, m2, m3, m4⟩ := hnext e2 hstep
              have hmu := hide_ m1
              have hsp2 := hide_ m2
              have hset2 := hide_ m3
              have hbo2 := hide_ m4
              clear hTd hspd hset0 hbo0 hS0 hA ho hstep hnext m1 m2 m3 m4
              go_wp2_with ((first | go_big_skip | (go_at_call 38; refine (isOver_core hT.out.cor hov.out).mono ?_; rintro e w2 ⟨rfl, hx⟩; replace hS := hS.trans (Stp.ofExt hx hT.out.bnd); replace hT := hide_ (hT.out.ext hx); clear hx) | (refine z2jz ?_; go_at_call 54; refine (decide_turn hT.out hl1.out hdl.out hr1.out).mono ?_; rintro e w3 ⟨rfl, S4, ⟨ov4, sv4, dv4, q4, gp4, gs4, hT4⟩, hs4⟩; replace hS := hS.trans hs4; have hT4' : TrnW S4 w3 tb p kv ov4 sv4 dv4 q4 gp4 gs4 kn d := hT4; replace hT := hide_ hT4'; clear hT4 hT4' hs4) | (refine z2jz ?_; go_at_call 55; refine (catchUp_turn hT.out hvw.out hl1.out hr2.out).mono ?_; rintro e w3 ⟨rfl, S4, ⟨ov4, sv4, dv4, q4, gp4, gs4, hT4⟩, hs4⟩; replace hS := hS.trans hs4; have hT4' : TrnW S4 w3 tb p kv ov4 sv4 dv4 q4 gp4 gs4 kn d := hT4; replace hT := hide_ hT4'; clear hT4 hT4' hs4) | (refine z2jz ?_; go_at_call 56; refine (prepare_turn hT.out hvr.out hpN.out hl1.out hr3.out).mono ?_; rintro e w3 ⟨rfl, S4, ⟨ov4, sv4, dv4, q4, gp4, gs4, hT4⟩, hs4⟩; replace hS := hS.trans hs4; have hT4' : TrnW S4 w3 tb p kv ov4 sv4 dv4 q4 gp4 gs4 kn d := hT4; replace hT := hide_ hT4'; clear hT4 hT4' hs4) | (refine z2jz ?_; go_at_call 57; refine (commit_turn hT.out hvr.out hmN.out hl1.out hr4.out).mono ?_; rintro e w3 ⟨rfl, S4, ⟨ov4, sv4, dv4, q4, gp4, gs4, hT4⟩, hs4⟩; replace hS := hS.trans hs4; have hT4' : TrnW S4 w3 tb p kv ov4 sv4 dv4 q4 gp4 gs4 kn d := hT4; replace hT := hide_ hT4'; clear hT4 hT4' hs4) | (refine z2jz ?_; go_at_call 58; refine (revalue_turn hT.out hvr.out hr5.out).mono ?_; rintro e w3 ⟨rfl, S4, ⟨ov4, sv4, dv4, q4, gp4, gs4, hT4⟩, hs4⟩; replace hS := hS.trans hs4; have hT4' : TrnW S4 w3 tb p kv ov4 sv4 dv4 q4 gp4 gs4 kn e2 := hT4; replace hT := hide_ hT4'; clear hT4 hT4' hs4) | refine z1kz ?_ | refine znz ?_ | fail) <;> (try refine z0z ?_))
              go_step3
              exact z24z
            | none =>
              have hfin := hide_ (show c.settle kn = d from by rw [← hset0]; exact settle_none hstep)
              clear hTd hspd hset0 hbo0 hS0 hA ho hstep hnext
              go_wp2_with ((first | go_big_skip | (go_at_call 38; refine (isOver_core hT.out.cor hov.out).mono ?_; rintro e w2 ⟨rfl, hx⟩; replace hS := hS.trans (Stp.ofExt hx hT.out.bnd); replace hT := hide_ (hT.out.ext hx); clear hx) | (refine z2jz ?_; go_at_call 54; refine (decide_turn hT.out hl1.out hdl.out hr1.out).mono ?_; rintro e w3 ⟨rfl, S4, ⟨ov4, sv4, dv4, q4, gp4, gs4, hT4⟩, hs4⟩; replace hS := hS.trans hs4; have hT4' : TrnW S4 w3 tb p kv ov4 sv4 dv4 q4 gp4 gs4 kn d := hT4; replace hT := hide_ hT4'; clear hT4 hT4' hs4) | (refine z2jz ?_; go_at_call 55; refine (catchUp_turn hT.out hvw.out hl1.out hr2.out).mono ?_; rintro e w3 ⟨rfl, S4, ⟨ov4, sv4, dv4, q4, gp4, gs4, hT4⟩, hs4⟩; replace hS := hS.trans hs4; have hT4' : TrnW S4 w3 tb p kv ov4 sv4 dv4 q4 gp4 gs4 kn d := hT4; replace hT := hide_ hT4'; clear hT4 hT4' hs4) | (refine z2jz ?_; go_at_call 56; refine (prepare_turn hT.out hvr.out hpN.out hl1.out hr3.out).mono ?_; rintro e w3 ⟨rfl, S4, ⟨ov4, sv4, dv4, q4, gp4, gs4, hT4⟩, hs4⟩; replace hS := hS.trans hs4; have hT4' : TrnW S4 w3 tb p kv ov4 sv4 dv4 q4 gp4 gs4 kn d := hT4; replace hT := hide_ hT4'; clear hT4 hT4' hs4) | (refine z2jz ?_; go_at_call 57; refine (commit_turn hT.out hvr.out hmN.out hl1.out hr4.out).mono ?_; rintro e w3 ⟨rfl, S4, ⟨ov4, sv4, dv4, q4, gp4, gs4, hT4⟩, hs4⟩; replace hS := hS.trans hs4; have hT4' : TrnW S4 w3 tb p kv ov4 sv4 dv4 q4 gp4 gs4 kn d := hT4; replace hT := hide_ hT4'; clear hT4 hT4' hs4) | (refine z2jz ?_; go_at_call 58; refine (revalue_turn hT.out hvr.out hr5.out).mono ?_; rintro e w3 ⟨rfl, S4, ⟨ov4, sv4, dv4, q4, gp4, gs4, hT4⟩, hs4⟩; replace hS := hS.trans hs4; have hT4' : TrnW S4 w3 tb p kv ov4 sv4 dv4 q4 gp4 gs4 kn d := hT4; replace hT := hide_ hT4'; clear hT4 hT4' hs4) | refine z1kz ?_ | refine znz ?_ | fail) <;> (try refine z0z ?_))
              simp only [Exit.jump]
              go_end0
              exact Keep.intro ⟨rfl, _, ⟨_, _, _, _, _, _, by rw [hfin.out]; exact hT.out⟩, hS⟩
end Go.Proofs.Ytajkjiegcmpjaaa
namespace Go.Proofs.Ytajkjiegcmpjaaa
set_option maxRecDepth 100000
open Go.RowKit
theorem Try.stTurn : St Try.prog 90 3 [.pointer none, .slice none 0 0, .slice none 0 0] := St.of (by kernel_rfl) (by kernel_rfl) rfl
theorem CorW.turn {S : Nat → Nat} {w w1 w2 : World} {tb p q gp gs : Nat} {kv sv dv : Value} {kn : List Int} {c : CoD} (h : CorW S w p sv dv q gp gs c) (h6 : ∀ k, S k ≤ 6) (hx : Ext w w1) (hg : w.heap.size ≤ tb) (hm : Mod (fun k => k = tb) w1 w2) (hf : Fs w2 tb [.pointer (some ⟨p, 0, none⟩), kv, .slice none 0 0]) (hk : Ints w kv kn) (hks : ∀ k, kv.ownBlock = some k → k < w.heap.size ∧ S k = 0) (ho : c.out = []) :
    ∃ S', TrnW S' w2 tb p kv (.slice none 0 0) sv dv q gp gs kn c ∧ (∀ k, k ≠ tb → S' k = S k) ∧ S' tb = 7 ∧ Ext w w2 := by
  have hne : ∀ k, 1 ≤ S k → ¬ k = tb := fun k h1 e => by have := h.bnd k (by omega); omega
  have hx2 : Ext w w2 := hm.after hx fun j e => e ▸ hg
  refine ⟨fun k => if k = tb then 7 else S k, ?_, fun k hk => if_neg hk, if_pos rfl, hx2⟩
  refine ⟨(h.ext hx2).relab (fun k h1 _ => if_neg (hne k h1)) fun k hk => ?_, hf, if_pos rfl, by rw [ho]; exact RowN.nil _ _ _, hk.ext hx2, fun k hk => ?_⟩
  · split at hk
    · rename_i e; rw [e]; exact hf.lt
    · exact Nat.lt_of_lt_of_le (h.bnd k hk) hx2.size
  · obtain ⟨h1, h2⟩ := hks k hk
    exact ⟨Nat.lt_of_lt_of_le h1 hx2.size, by rw [if_neg (by omega)]; exact h2⟩
theorem TrnW.done {S S1 S2 : Nat → Nat} {w w1 w2 : World} {tb p q gp gs : Nat} {kv ov sv dv : Value} {kn : List Int} {c : CoD} (h : TrnW S2 w2 tb p kv ov sv dv q gp gs kn c) (h6 : ∀ k, S k ≤ 6) (hb : ∀ k, S k ≠ 0 → k < w.heap.size) (h1 : ∀ k, k ≠ tb → S1 k = S k) (htb : w.heap.size ≤ tb) (hx : Ext w w1) (hs : Stp 1 8 S1 S2 w1 w2) :
    ∃ S', Cor S' w2 p c ∧ (∀ k, S' k ≤ 6) ∧ RowN (fun k => w.heap.size ≤ k ∧ S' k = 0) w2 59 14 ov (c.out.map acRow) ∧ (∀ k, ov.ownBlock = some k → w.heap.size ≤ k ∧ S' k = 0) ∧ Stp 1 6 S S' w w2 := by
  have hold : ∀ k, k < w.heap.size → S2 k = S k := fun k hk => by
    rw [hs.same k (Nat.lt_of_lt_of_le hk hx.size), h1 k (by omega)]
  have hout : ∀ k, S2 k = 8 → w.heap.size ≤ k := fun k hk => Nat.le_of_not_lt fun hl => by have := hold k hl; have := h6 k; omega
  refine ⟨fun k => if S2 k ≤ 6 then S2 k else 0, ⟨sv, dv, q, gp, gs, h.cor.relab (fun k h1 h2 => if_pos h2) fun k hk => ?_⟩, fun k => ?_, h.out.mono fun k hk => ⟨hout k hk, if_neg (by omega)⟩, fun k hk => ?_, ?_, fun k hk => ?_, fun k hk => ?_⟩
  · split at hk
    · exact h.cor.bnd k hk
    · exact absurd rfl hk
  · show (if S2 k ≤ 6 then S2 k else 0) ≤ 6
    split <;> omega
  · have := h.out.inF k hk
    exact ⟨hout k this, if_neg (by omega)⟩
  · refine ((hx.mod fun k => 1 ≤ S k ∧ S k ≤ 6).trans hs.mod fun k hk q => ?_)
    rw [h1 k (by omega)] at q
    exact ⟨q.1, h6 k⟩
  · show (if S2 k ≤ 6 then S2 k else 0) = S k
    rw [hold k hk, if_pos (h6 k)]
  · split at hk
    · exact h.cor.bnd k hk
    · exact absurd rfl hk
end Go.Proofs.Ytajkjiegcmpjaaa
namespace Go.Proofs.Ytajkjiegcmpjaaa
set_option maxRecDepth 100000
open Go.RowKit
def CoD.told (c : CoD) (m : MsV) : List AcV := if m.kd = 6 then [] else [⟨m.fm, ⟨6, c.me, m.ix, 0, c.dec.getD m.ix.toNat 0, 0⟩⟩]
end Go.Proofs.Ytajkjiegcmpjaaa
namespace Go.Proofs.Ytajkjiegcmpjaaa
set_option maxRecDepth 100000
open Go.RowKit
section
variable {S S' : Nat → Nat} {w w1 w' : World} {p q gp gs : Nat} {sv dv kv : Value} {c : CoD}
theorem Stp.pre {lo hi : Nat} (hx : Ext w w1) (h : Stp lo hi S S' w1 w') : Stp lo hi S S' w w' := ⟨(hx.mod fun k => lo ≤ S k ∧ S k ≤ hi).trans h.mod fun _ _ e => e, fun k hk => h.same k (Nat.lt_of_lt_of_le hk hx.size), h.bnd⟩
theorem ks_stp (hk : ∀ k, kv.ownBlock = some k → k < w.heap.size ∧ S k = 0) {lo hi : Nat} (hs : Stp lo hi S S' w w') : ∀ k, kv.ownBlock = some k → k < w'.heap.size ∧ S' k = 0 := fun k h => by
  obtain ⟨h1, h2⟩ := hk k h
  exact ⟨Nat.lt_of_lt_of_le h1 hs.size, by rw [hs.same k h1]; exact h2⟩
end
theorem mu_room (c : CoD) (h : 0 ≤ c.view) (hs : 0 ≤ c.step) : c.mu ≤ 10018015 := by
  unfold CoD.mu CoD.muV
  have h1 : (1001 - c.dec.length) * 10000 ≤ 1001 * 10000 := Nat.mul_le_mul_right _ (by omega)
  have h2 : (1000 - c.view).toNat ≤ 1000 := by omega
  have h3 : (3 - c.step).toNat ≤ 3 := by omega
  split <;> omega
theorem mu_len {c : CoD} (h : 0 ≤ c.view) (hs : 0 ≤ c.step) {n : Nat} (hn : n ≤ 4) : (n + c.mu + 1) * 128 ≤ 140737488355328 := by
  have := mu_room c h hs
  exact Nat.le_trans (Nat.mul_le_mul_right 128 (show n + c.mu + 1 ≤ 10018020 by generalize c.mu = m at this ⊢; omega)) (by decide)
end Go.Proofs.Ytajkjiegcmpjaaa
namespace Go.Proofs.Ytajkjiegcmpjaaa
set_option maxHeartbeats 3200000
set_option maxRecDepth 100000
open Go.RowKit
theorem settle_len {N : Int → Prop} {i0 : Int} {c : CoD} {kn : List Int} (h : Spk N i0 c) (h0 : N 0) : (c.settle kn).out.length ≤ c.out.length + c.mu := by
  have := settle_ind (kn := kn) (fun d => Spk N i0 d ∧ d.out.length + d.mu ≤ c.out.length + c.mu) (fun d e hd he => ⟨spk_step1 hd.1 h0 he, by
    have h1 := mu_step1 hd.1.1 he
    have h2 := step1_len he
    have h3 := hd.2
    generalize d.mu = a at h1 h3
    generalize e.mu = b at h1 ⊢
    omega⟩) ⟨h, Nat.le_refl _⟩
  exact Nat.le_trans (Nat.le_add_right _ _) this.2
theorem tock_rest {c : CoD} (h : c.step = 0) : c.tock = c.enter 0 := if_pos h
theorem tock_wait {c : CoD} (h : ¬ c.step = 0) (ht : ¬ tck c.left = 0) : c.tock = { c with left := tck c.left } := by
  unfold CoD.tock
  rw [if_neg h]
  exact if_neg ht
theorem tock_up {c : CoD} (h : ¬ c.step = 0) (ht : tck c.left = 0) : c.tock = CoD.gu { c with left := tck c.left } := by
  unfold CoD.tock
  rw [if_neg h]
  exact if_pos ht
theorem tck_in {x : Int} (h : 0 ≤ x ∧ x ≤ 1000000) : 0 ≤ tck x ∧ tck x ≤ 1000000 := by unfold tck; omega
theorem gu_len (c : CoD) : c.gu.out.length ≤ c.out.length + 1 := by
  unfold CoD.gu
  split
  · exact castTo_len _ _ _ _
  · split
    · exact castTo_len _ _ _ _
    · split
      · exact enter_len _ _
      · unfold CoD.to; simp
theorem tock_len {c : CoD} : c.tock.out.length ≤ c.out.length + 1 := by
  by_cases h : c.step = 0
  · rw [tock_rest h]; exact enter_len _ _
  · by_cases ht : tck c.left = 0
    · rw [tock_up h ht]; exact gu_len _
    · rw [tock_wait h ht]; exact Nat.le_succ _
theorem tick_core {S : Nat → Nat} {w : World} {p q gp gs : Nat} {sv dv kv : Value} {kn : List Int} {c : CoD} {tip i0 : Int} (h : CorW S w p sv dv q gp gs c) (h6 : ∀ k, S k ≤ 6) (hsp0 : Spk NV i0 c) (ho : c.out = []) (ht0 : NV tip) (hk0 : Ints w kv kn) (hks0 : ∀ k, kv.ownBlock = some k → k < w.heap.size ∧ S k = 0) :
    Calls Try.prog 28 #[.pointer (some ⟨p, 0, none⟩), kv, .int .i64 tip] w fun e w' => ∃ S' ov, e = .returned ov ∧ Cor S' w' p (c.tick kn tip) ∧ (∀ k, S' k ≤ 6) ∧ RowN (fun k => w.heap.size ≤ k ∧ S' k = 0) w' 59 14 ov ((c.tick kn tip).out.map acRow) ∧ (∀ k, ov.ownBlock = some k → w.heap.size ≤ k ∧ S' k = 0) ∧ Stp 1 6 S S' w w' := by
  refine z2cz ?_
  have hC := hide_ h
  have hX := Ext.refl w
  have hS6 := hide_ h6
  have hout := hide_ ho
  have hkv := hide_ hk0
  have hks := hide_ hks0
  obtain ⟨ob, hov0⟩ : ∃ b, decide (1000 < c.dec.length) = b := ⟨_, rfl⟩
  have hov := hide_ hov0
  cases ob with
  | true =>
    have hfin := hide_ (show c.tick kn tip = c from by
      unfold CoD.tick
      rw [if_pos (of_decide_eq_true hov0)])
    clear h h6 hsp0 ho ht0 hk0 hks0 hov0
    go_enter Try.func28, Try.ntmps28
    go_wp2_with (first | go_big_skip | (go_at_call 38; refine (isOver_core (hC.out.ext hX) hov.out).mono ?_; rintro e w2 ⟨rfl, hx⟩; replace hX := hX.trans hx; clear hx) | fail)
    go_ret
    exact Keep.intro ⟨S, .slice none 0 0, rfl, ⟨sv, dv, q, gp, gs, by rw [hfin.out]; exact hC.out.ext hX⟩, hS6.out, by rw [hfin.out, hout.out]; exact RowN.nil _ _ _, (fun _ h => nomatch h), Stp.ofExt hX hC.out.bnd⟩
  | false =>
  have hdl : c.dec.length ≤ 1000 := by have := of_decide_eq_false hov0; omega
  have hsp1 := spk_tip hsp0 ht0
  have hsp3 := spk_tock hsp1 hdl
  have hsp2 := hide_ hsp3
  have hout2 := hide_ (show ({ c with tip := tip } : CoD).out = [] from ho)
  have hlen : (CoD.tock { c with tip := tip }).out.length ≤ 1 := Nat.le_trans (tock_len (c := { c with tip := tip })) (by show c.out.length + 1 ≤ 1; rw [ho]; simp)
  have hmu := mu_len hsp3.1.rv.1 hsp3.1.rs.1 (Nat.le_refl 4)
  have hlen2 := hide_ (show ((CoD.tock { c with tip := tip }).out.length + (CoD.tock { c with tip := tip }).mu + 1) * 128 ≤ 140737488355328 from Nat.le_trans (Nat.mul_le_mul_right 128 (Nat.succ_le_succ (Nat.add_le_add_right (Nat.le_trans hlen (show 1 ≤ 4 by decide)) _))) hmu)
  have hsp4 := spk_settle hsp3 NV.zero kn
  have hvr := hide_ (show 0 ≤ (CoD.settle (CoD.tock { c with tip := tip }) kn).view ∧ (CoD.settle (CoD.tock { c with tip := tip }) kn).view ≤ 1000 from hsp4.1.rv)
  have hlen3 := hide_ (show ((CoD.settle (CoD.tock { c with tip := tip }) kn).out.length + 3) * 128 ≤ 140737488355328 from by
    have h1 := settle_len (kn := kn) hsp3 NV.zero
    have h2 := mu_room _ hsp3.1.rv.1 hsp3.1.rs.1
    have hl : (CoD.tock { c with tip := tip }).out.length ≤ 1 := hlen
    generalize (CoD.tock { c with tip := tip }).mu = m at h1 h2
    exact Nat.le_trans (Nat.mul_le_mul_right 128 (show _ ≤ 10018020 by omega)) (by decide))
  have hvw := hide_ (show -1 ≤ c.vw from hsp0.1.vw.1)
  have hvr0 := hide_ (show 0 ≤ c.view ∧ c.view ≤ 1000 from hsp0.1.rv)
  have hlen1 := hide_ (show (c.out.length + 1) * 128 ≤ 140737488355328 from by rw [ho]; decide)
  have hfin := hide_ (show c.tick kn tip = ((CoD.tock { c with tip := tip }).settle kn).resend from by
    unfold CoD.tick
    rw [if_neg (of_decide_eq_false hov0)])
  by_cases h1 : c.step = 0
  · have t0 : (c.step == 0) = true := by simp [h1]
    have htock : CoD.tock { c with tip := tip } = CoD.enter { c with tip := tip } 0 := tock_rest h1
    rw [htock] at hsp2 hlen2 hvr hlen3 hfin
    clear h h6 hsp0 ho ht0 hk0 hks0 hov0 hdl hsp1 hsp3 hlen hmu hsp4 h1 htock
    go_enter Try.func28, Try.ntmps28
    go_wp2_with ((first | go_big_skip | (go_at_call 38; refine (isOver_core (hC.out.ext hX) hov.out).mono ?_; rintro e w2 ⟨rfl, hx⟩; replace hX := hX.trans hx; clear hx) | (refine z3oz ?_; intro w3 hm3 f3; have hs2 := hide_ (Stp.pre hX ((hC.out.ext hX).stpCell hm3)); have hC2 := hide_ ((hC.out.ext hX).cell (d := { c with tip := tip }) hm3 f3 ⟨rfl, rfl, rfl, rfl, rfl, rfl⟩ hC.out.lft); have hkv2 := hide_ (ints_mod hkv.out hs2.out.mod fun k hk => hs2.out.off (l := 0) (by omega) (hks.out k hk).2); have hks2 := hide_ (ks_stp hks.out hs2.out); clear hm3 f3) | refine z2zz ?_ | (refine z3wz ?_; refine w_sbuild Try.stTurn [.pointer (some ⟨p, 0, none⟩), kv, .slice none 0 0] rfl rfl rfl (by intro x hx; simp at hx; rcases hx with rfl | rfl; exact ⟨by decide, rfl⟩; exact ⟨by decide, oneCell_cells (Sl.one' hkv.out)⟩) ?_) | ((with_reducible refine at_alloc ?_); refine w_alloc Try.stTurn rfl rfl ?_; intro tb wt htb hxt ft) | (refine z3az ?_; refine w_astore Try.stTurn (us := [.pointer (some ⟨p, 0, none⟩), kv, .slice none 0 0]) _ _ rfl rfl rfl rfl rfl ft rfl rfl (by intro x hx; simp only [List.mem_cons, List.not_mem_nil, or_false] at hx; rcases hx with rfl | rfl | rfl; rfl; exact Sl.one' hkv.out; rfl) ?_; intro wu hmu fu; obtain ⟨S3, hT30, hsame0, htb70, hxu0⟩ := hC2.out.turn hS6.out hxt htb hmu fu hkv2.out hks2.out hout2.out; have hT3 := hide_ hT30; have hsame := hide_ hsame0; have hxu := hide_ hxu0; have htb0 := hide_ htb; have hst := hide_ (Stp.refl (lo := 1) (hi := 8) hT30.bnd); clear hT30 hsame0 htb70 hxu0 hxt ft hmu fu htb) | refine z1wz ?_ | (go_at_call 39; refine (enter_turn hT3.out (v := 0) (by omega) hvw.out hlen1.out).mono ?_; rintro e w4 ⟨rfl, S4, ov4, hT40, hs40⟩; replace hst := hide_ (hst.out.trans hs40); replace hT3 := hide_ hT40; clear hT40 hs40) | (go_at_call 42; refine (settle_turn hT3.out hsp2.out hlen2.out).mono ?_; rintro e w5 ⟨rfl, S5, ⟨ov5, sv5, dv5, q5, gp5, gs5, hT50⟩, hs50⟩; have hT5 := hide_ hT50; replace hst := hide_ (hst.out.trans hs50); clear hT50 hs50 hT3) | (go_at_call 43; refine (repeat_turn hT5.out hvr.out hlen3.out).mono ?_; rintro e w6 ⟨rfl, S6, ⟨ov6, sv6, dv6, q6, gp6, gs6, hT60⟩, hs60⟩; have hT6 := hide_ hT60; replace hst := hide_ (hst.out.trans hs60); clear hT60 hs60) | refine z2az ?_ | fail) <;> (try refine z0z ?_))
    go_ret
    obtain ⟨S7, d1, d2, d3, d4, d5⟩ := hT6.out.done hS6.out hC2.out.bnd hsame.out htb0.out hxu.out hst.out
    have hge := hs2.out.size
    exact z2xz
  · have t0 : (c.step == 0) = false := by simp [h1]
    have hl6 := hide_ (tck_in h.lft)
    have hstp := hide_ (show 1 ≤ c.step ∧ c.step ≤ 3 from by have := hsp0.1.rs; omega)
    obtain ⟨tb0, htk0⟩ : ∃ b, decide (tck c.left = 0) = b := ⟨_, rfl⟩
    have htk := hide_ htk0
    cases tb0 with
    | true =>
      have htock : CoD.tock { c with tip := tip } = CoD.gu { c with tip := tip, left := tck c.left } := tock_up h1 (of_decide_eq_true htk0)
      rw [htock] at hsp2 hlen2 hvr hlen3 hfin
      clear h h6 hsp0 ho ht0 hk0 hks0 hov0 hdl hsp1 hsp3 hlen hmu hsp4 h1 htock htk0
      go_enter Try.func28, Try.ntmps28
      go_wp2_with ((first | go_big_skip | (go_at_call 38; refine (isOver_core (hC.out.ext hX) hov.out).mono ?_; rintro e w2 ⟨rfl, hx⟩; replace hX := hX.trans hx; clear hx) | (refine z3oz ?_; intro w3 hm3 f3; have hs2 := hide_ (Stp.pre hX ((hC.out.ext hX).stpCell hm3)); have hC2 := hide_ ((hC.out.ext hX).cell (d := { c with tip := tip }) hm3 f3 ⟨rfl, rfl, rfl, rfl, rfl, rfl⟩ hC.out.lft); have hkv2 := hide_ (ints_mod hkv.out hs2.out.mod fun k hk => hs2.out.off (l := 0) (by omega) (hks.out k hk).2); have hks2 := hide_ (ks_stp hks.out hs2.out); clear hm3 f3) | refine z2zz ?_ | (refine z3wz ?_; refine w_sbuild Try.stTurn [.pointer (some ⟨p, 0, none⟩), kv, .slice none 0 0] rfl rfl rfl (by intro x hx; simp at hx; rcases hx with rfl | rfl; exact ⟨by decide, rfl⟩; exact ⟨by decide, oneCell_cells (Sl.one' hkv.out)⟩) ?_) | ((with_reducible refine at_alloc ?_); refine w_alloc Try.stTurn rfl rfl ?_; intro tb wt htb hxt ft) | (refine z3az ?_; refine w_astore Try.stTurn (us := [.pointer (some ⟨p, 0, none⟩), kv, .slice none 0 0]) _ _ rfl rfl rfl rfl rfl ft rfl rfl (by intro x hx; simp only [List.mem_cons, List.not_mem_nil, or_false] at hx; rcases hx with rfl | rfl | rfl; rfl; exact Sl.one' hkv.out; rfl) ?_; intro wu hmu fu; obtain ⟨S3, hT30, hsame0, htb70, hxu0⟩ := hC2.out.turn hS6.out hxt htb hmu fu hkv2.out hks2.out hout2.out; have hT3 := hide_ hT30; have hsame := hide_ hsame0; have hxu := hide_ hxu0; have htb0 := hide_ htb; have hst := hide_ (Stp.refl (lo := 1) (hi := 8) hT30.bnd); clear hT30 hsame0 htb70 hxu0 hxt ft hmu fu htb) | refine z1wz ?_ | (go_at_call 40; refine (Tick_at hT3.out.cor.obj (i := 8) (x := c.left) rfl (by have := hC.out.lft; omega)).mono ?_; rintro e w4 ⟨rfl, hm4, f4⟩; have hT40 := hT3.out.core (hT3.out.cor.stpCell hm4) (hT3.out.cor.cell (d := { c with tip := tip, left := tck c.left }) hm4 f4 ⟨rfl, rfl, rfl, rfl, rfl, rfl⟩ hl6.out) rfl; replace hst := hide_ (hst.out.trans ((hT3.out.cor.stpCell hm4).wide (by omega) (by omega))); replace hT3 := hide_ hT40; clear hT40 hm4 f4; rw [htk.out]) | (go_at_call 41; refine (giveUp_turn hT3.out hstp.out hvr0.out hvw.out hlen1.out).mono ?_; rintro e w4 ⟨rfl, S4, ⟨ov4, sv4, dv4, q4, gp4, gs4, hT40⟩, hs40⟩; replace hst := hide_ (hst.out.trans hs40); replace hT3 := hide_ hT40; clear hT40 hs40) | (go_at_call 42; refine (settle_turn hT3.out hsp2.out hlen2.out).mono ?_; rintro e w5 ⟨rfl, S5, ⟨ov5, sv5, dv5, q5, gp5, gs5, hT50⟩, hs50⟩; have hT5 := hide_ hT50; replace hst := hide_ (hst.out.trans hs50); clear hT50 hs50 hT3) | (go_at_call 43; refine (repeat_turn hT5.out hvr.out hlen3.out).mono ?_; rintro e w6 ⟨rfl, S6, ⟨ov6, sv6, dv6, q6, gp6, gs6, hT60⟩, hs60⟩; have hT6 := hide_ hT60; replace hst := hide_ (hst.out.trans hs60); clear hT60 hs60) | refine z2az ?_ | fail) <;> (try refine z0z ?_))
      go_ret
      obtain ⟨S7, d1, d2, d3, d4, d5⟩ := hT6.out.done hS6.out hC2.out.bnd hsame.out htb0.out hxu.out hst.out
      have hge := hs2.out.size
      exact z2xz
    | false =>
      have htock : CoD.tock { c with tip := tip } = { c with tip := tip, left := tck c.left } := tock_wait h1 (of_decide_eq_false htk0)
      rw [htock] at hsp2 hlen2 hvr hlen3 hfin
      clear h h6 hsp0 ho ht0 hk0 hks0 hov0 hdl hsp1 hsp3 hlen hmu hsp4 h1 htock htk0
      go_enter Try.func28, Try.ntmps28
      go_wp2_with ((first | go_big_skip | (go_at_call 38; refine (isOver_core (hC.out.ext hX) hov.out).mono ?_; rintro e w2 ⟨rfl, hx⟩; replace hX := hX.trans hx; clear hx) | (refine z3oz ?_; intro w3 hm3 f3; have hs2 := hide_ (Stp.pre hX ((hC.out.ext hX).stpCell hm3)); have hC2 := hide_ ((hC.out.ext hX).cell (d := { c with tip := tip }) hm3 f3 ⟨rfl, rfl, rfl, rfl, rfl, rfl⟩ hC.out.lft); have hkv2 := hide_ (ints_mod hkv.out hs2.out.mod fun k hk => hs2.out.off (l := 0) (by omega) (hks.out k hk).2); have hks2 := hide_ (ks_stp hks.out hs2.out); clear hm3 f3) | refine z2zz ?_ | (refine z3wz ?_; refine w_sbuild Try.stTurn [.pointer (some ⟨p, 0, none⟩), kv, .slice none 0 0] rfl rfl rfl (by intro x hx; simp at hx; rcases hx with rfl | rfl; exact ⟨by decide, rfl⟩; exact ⟨by decide, oneCell_cells (Sl.one' hkv.out)⟩) ?_) | ((with_reducible refine at_alloc ?_); refine w_alloc Try.stTurn rfl rfl ?_; intro tb wt htb hxt ft) | (refine z3az ?_; refine w_astore Try.stTurn (us := [.pointer (some ⟨p, 0, none⟩), kv, .slice none 0 0]) _ _ rfl rfl rfl rfl rfl ft rfl rfl (by intro x hx; simp only [List.mem_cons, List.not_mem_nil, or_false] at hx; rcases hx with rfl | rfl | rfl; rfl; exact Sl.one' hkv.out; rfl) ?_; intro wu hmu fu; obtain ⟨S3, hT30, hsame0, htb70, hxu0⟩ := hC2.out.turn hS6.out hxt htb hmu fu hkv2.out hks2.out hout2.out; have hT3 := hide_ hT30; have hsame := hide_ hsame0; have hxu := hide_ hxu0; have htb0 := hide_ htb; have hst := hide_ (Stp.refl (lo := 1) (hi := 8) hT30.bnd); clear hT30 hsame0 htb70 hxu0 hxt ft hmu fu htb) | refine z1wz ?_ | (go_at_call 40; refine (Tick_at hT3.out.cor.obj (i := 8) (x := c.left) rfl (by have := hC.out.lft; omega)).mono ?_; rintro e w4 ⟨rfl, hm4, f4⟩; have hT40 := hT3.out.core (hT3.out.cor.stpCell hm4) (hT3.out.cor.cell (d := { c with tip := tip, left := tck c.left }) hm4 f4 ⟨rfl, rfl, rfl, rfl, rfl, rfl⟩ hl6.out) rfl; replace hst := hide_ (hst.out.trans ((hT3.out.cor.stpCell hm4).wide (by omega) (by omega))); replace hT3 := hide_ hT40; clear hT40 hm4 f4; rw [htk.out]) | (go_at_call 42; refine (settle_turn hT3.out hsp2.out hlen2.out).mono ?_; rintro e w5 ⟨rfl, S5, ⟨ov5, sv5, dv5, q5, gp5, gs5, hT50⟩, hs50⟩; have hT5 := hide_ hT50; replace hst := hide_ (hst.out.trans hs50); clear hT50 hs50 hT3) | (go_at_call 43; refine (repeat_turn hT5.out hvr.out hlen3.out).mono ?_; rintro e w6 ⟨rfl, S6, ⟨ov6, sv6, dv6, q6, gp6, gs6, hT60⟩, hs60⟩; have hT6 := hide_ hT60; replace hst := hide_ (hst.out.trans hs60); clear hT60 hs60) | refine z2az ?_ | fail) <;> (try refine z0z ?_))
      go_ret
      obtain ⟨S7, d1, d2, d3, d4, d5⟩ := hT6.out.done hS6.out hC2.out.bnd hsame.out htb0.out hxu.out hst.out
      have hge := hs2.out.size
      exact z2xz
end Go.Proofs.Ytajkjiegcmpjaaa
namespace Go.Proofs.Ytajkjiegcmpjaaa
set_option maxHeartbeats 3200000
set_option maxRecDepth 100000
open Go.RowKit
theorem run_cbuild (me base most : Int) (A : Option Addr) (n m : Nat) (q gp gs : Nat) (w : World) : (Instr.build 74 #[(0, .int .i64 me), (1, .slice A n m), (2, .int .i64 base), (3, .int .i64 most), (6, .agg #[.int .i64 0, .int .i64 0, .int .i64 0, .pointer (some ⟨q, 0, none⟩), .map (some gp), .map (some gs), .int .i64 0, .int .i64 (-1), .int .i64 0, .int .i64 (-1)])]).run Try.prog w = .ok (.agg #[.int .i64 me, .slice A n m, .int .i64 base, .int .i64 most, .slice none 0 0, .int .i64 0, .int .i64 0, .int .i64 0, .int .i64 0, .pointer (some ⟨q, 0, none⟩), .map (some gp), .map (some gs), .int .i64 0, .int .i64 (-1), .int .i64 0, .int .i64 (-1)]) w := by
  kernel_rfl
theorem w_cbuild {ops : Array Oper} {rest : List Oper} {o : Oper} {a : Act} {Q : Exit → Act → World → Prop} {w : World} (x0 x1 x2 x3 x6 : Operand) {me base most : Int} {sv : Value} {q gp gs : Nat} (hs : ∃ A n m, sv = .slice A n m) (hgd : o.guard = none) (ho : o.op = .build 74 #[(0, x0), (1, x1), (2, x2), (3, x3), (6, x6)]) (h0 : a.eval x0 = .int .i64 me) (h1 : a.eval x1 = sv) (h2 : a.eval x2 = .int .i64 base) (h3 : a.eval x3 = .int .i64 most) (h6 : a.eval x6 = .agg #[.int .i64 0, .int .i64 0, .int .i64 0, .pointer (some ⟨q, 0, none⟩), .map (some gp), .map (some gs), .int .i64 0, .int .i64 (-1), .int .i64 0, .int .i64 (-1)])
    (k : wpList Try.prog ops Q rest (a.put o.dst (.agg #[.int .i64 me, sv, .int .i64 base, .int .i64 most, .slice none 0 0, .int .i64 0, .int .i64 0, .int .i64 0, .int .i64 0, .pointer (some ⟨q, 0, none⟩), .map (some gp), .map (some gs), .int .i64 0, .int .i64 (-1), .int .i64 0, .int .i64 (-1)])) w) : wpList Try.prog ops Q (o :: rest) a w := by
  obtain ⟨A, n, m, rfl⟩ := hs
  have hr := run_cbuild me base most A n m q gp gs w
  refine wpList_runs hgd ?_ k
  unfold Runs execOp
  simp [ho, h0, h1, h2, h3, h6, hr]
theorem CorW.new {w w1 w2 w3 : World} {t : List Int} {me : Nat} {base most : Int} {sv : Value} {p q gp gs : Nat} {X : Nat → Prop} (hx1 : Ext w w1) (ho : OwnI w.heap.size w1 sv t) (hx2 : Ext w1 w2) (n1 : Tal X w2 q t T0 0) (n2 : w2.ownsMap Try.prog 3 tok gp 0 (.map [])) (n3 : w2.ownsMap Try.prog 3 tok gs 0 (.map []))
    (n4 : ∀ k, X k → w1.heap.size ≤ k ∧ k < w2.heap.size) (n5 : w1.heap.size ≤ gp) (n6 : w1.heap.size ≤ gs) (n7 : ¬ X gp) (n8 : ¬ X gs) (n9 : gp ≠ gs) (hp : w2.heap.size ≤ p) (hx3 : Ext w2 w3) (hf : Fs w3 p (coRow (CoD.new me t base most) sv (.slice none 0 0) q gp gs)) (hme : me < t.length) :
    ∃ S', CorW S' w3 p sv (.slice none 0 0) q gp gs (CoD.new me t base most) ∧ (∀ k, S' k ≤ 6) ∧ ∀ k, S' k ≠ 0 → w.heap.size ≤ k := by
  have s1 := hx1.size
  have s2 := hx2.size
  have s3 := hx3.size
  have lp := hf.lt
  have lgp := n2.lt
  have lgs := n3.lt
  refine ⟨fun k => if k < w.heap.size then 0 else if k < w1.heap.size then 6 else if k = gp then 2 else if k = gs then 3 else if k < w2.heap.size then 5 else if k = p then 1 else 0, ?_, fun k => ?_, fun k hk => ?_⟩
  · refine ⟨hf, ⟨?_, ?_, ?_⟩, (ho.ints.ext hx2).ext hx3, fun k hk => ?_, Row.nil _ _, ?_, ⟨0, _, by omega, ownsMap_ext n2 hx3, PrM.nil⟩, ⟨0, _, by omega, ownsMap_ext n3 hx3, InM.nil, fun i hi => absurd rfl hi⟩, fun k hk => ?_, ⟨Int.le_refl _, by show (0 : Int) ≤ 1000000; omega⟩, hme⟩
    · rw [if_neg (by omega), if_neg (by omega), if_neg (by omega), if_neg (by omega), if_neg (by omega), if_pos rfl]
    · rw [if_neg (by omega), if_neg (by omega), if_pos rfl]
    · rw [if_neg (by omega), if_neg (by omega), if_neg (Ne.symm n9), if_pos rfl]
    · obtain ⟨h1, h2⟩ := (show w1.ownsRow w.heap.size 3 1 sv (i64s t).length (i64s t) from ho).lt k hk
      rw [if_neg (by omega), if_pos h2]
    · obtain ⟨a, b, D, m, ht⟩ := n1.tight
      refine ⟨a, b, D, m, (ht.ext hx3).mono fun k hk => ?_⟩
      have := n4 k hk
      rw [if_neg (by omega), if_neg (by omega), if_neg (show ¬ k = gp from fun e => n7 (e ▸ hk)), if_neg (show ¬ k = gs from fun e => n8 (e ▸ hk)), if_pos this.2]
    · (try dsimp only at hk)
      split at hk
      · exact absurd rfl hk
      · split at hk
        · omega
        · split at hk
          · omega
          · split at hk
            · omega
            · split at hk
              · omega
              · split at hk
                · omega
                · exact absurd rfl hk
  · (try dsimp only)
    split <;> (try split) <;> (try split) <;> (try split) <;> (try split) <;> (try split) <;> omega
  · (try dsimp only at hk)
    split at hk
    · exact absurd rfl hk
    · omega
theorem New_any {w : World} {v : Value} {t : List Int} {me : Nat} {base most : Int} (hv0 : Ints w v t) (ht0 : StOk t) (hm0 : me < t.length) :
    Calls Try.prog 9 #[.int .i64 (me : Nat), v, .int .i64 base, .int .i64 most] w fun e w' => ∃ p S', e = .returned (.pointer (some ⟨p, 0, none⟩)) ∧ Cor S' w' p (CoD.new me t base most) ∧ (∀ k, S' k ≤ 6) ∧ (∀ k, S' k ≠ 0 → w.heap.size ≤ k) ∧ Ext w w' := by
  refine z2cz ?_
  have hv := hide_ hv0
  have ht := hide_ ht0
  have hm := hide_ hm0
  have hlc := hide_ (show t.length * 8 ≤ 140737488355328 by have := ht0.2.1; omega)
  clear hv0 ht0 hm0
  go_enter Try.func9, Try.ntmps9
  go_wp2_with ((first | (go_at_call 26; refine (IClone_any hv.out hlc.out).mono ?_; rintro e w1 ⟨sv, rfl, ho, hx1⟩) | (go_at_call 27; refine (newRound_any ho.ints ht.out).mono ?_; rintro e w2 ⟨u2, rfl, ⟨q, gp, gs, X, rfl, n1, n2, n3, n4, n5, n6, n7, n8, n9⟩, hx2⟩) | ((with_reducible refine at_sbuild ?_); refine w_cbuild (.tmp 12) (.tmp 13) (.tmp 14) (.tmp 15) (.tmp 17) (me := (me : Nat)) (base := base) (most := most) (sv := sv) (q := q) (gp := gp) (gs := gs) (by obtain ⟨A, cc, hxv, _⟩ := ho.ints; exact ⟨_, _, _, hxv⟩) rfl rfl rfl rfl rfl rfl rfl ?_) | ((with_reducible refine at_box ?_); refine w_box _ (coRow (CoD.new me t base most) sv (.slice none 0 0) q gp gs) rfl rfl rfl rfl ?_; intro p w3 hp hx3 hf) | fail) <;> (try refine z0z ?_))
  obtain ⟨S', hC, h6, hlo⟩ := CorW.new hx1 ho hx2 n1 n2 n3 n4 n5 n6 n7 n8 n9 hp hx3 hf hm.out
  go_ret
  exact Keep.intro ⟨p, S', rfl, ⟨_, _, _, _, _, hC⟩, h6, hlo, hx1.trans (hx2.trans hx3)⟩
end Go.Proofs.Ytajkjiegcmpjaaa
namespace Go.Proofs.Ytajkjiegcmpjaaa
set_option maxRecDepth 100000
open Go.RowKit
set_option maxHeartbeats 800000 in
theorem SameInts_any (va vb : Value) (l : List Int) (w : World) (ha : Ints w va l) (hb : Ints w vb l) :
    Calls Try.prog 24 #[va, vb] w fun e w' => e = .returned (.bool true) ∧ Ext w w' := by
  refine z2cz ?_
  have hlm := ha.len_le
  unfold maxLen at hlm
  go_enter Try.func24, Try.ntmps24
  go_wp2_with (first | (refine i_len (.tmp 6) rfl rfl (v := va) rfl ha ?_) | (refine i_len (.tmp 8) rfl rfl (v := vb) rfl hb ?_) | (refine i_len (.tmp 11) rfl rfl (v := va) rfl ha ?_))
  go_loopw [13] (fun i wr => ∃ (k : Nat), i = .int .i64 k ∧ k ≤ l.length ∧ Ext w wr)
    (fun i _ => l.length - (intOf i).toNat)
  case atStart => exact ⟨0, rfl, Nat.zero_le _, Ext.refl _⟩
  case round =>
    obtain ⟨k, rfl, hk, hX⟩ := hrel
    by_cases hlt : k < l.length
    · have K0 := (ha.ext hX).ext (Ext.refl _).drew
      have K1 := (hb.ext hX).ext (Ext.refl _).drew
      go_wp2
      refine wp_region_linR (by kernel_rfl) (by kernel_rfl) ?_
      refine LinR.step (s := (.val (va))) [(0, none)] rfl (by kernel_rfl) (op_out 0 (va) rfl (.inl rfl) rfl) ?_
      refine LinR.step (s := (.val (.int .i64 k))) [(5, none)] rfl (by kernel_rfl) (op_out 5 (.int .i64 k) rfl (.inl rfl) rfl) ?_
      refine LinR.step (s := (Sp.ptr (.int .i64 (l[k])))) [(16, some 1), (17, some 0)] rfl (by kernel_rfl) (op_runs rfl fun σ w' hx hg => rptri (ρ := σ.eval) (w := w') (.tmp 16) (.tmp 17) rfl (hg.1) (K0.ext hx) k hg.2.1 hlt rfl) ?_
      refine LinR.step (s := (.val (.int .i64 (l[k] : Int)))) [(18, some 0)] rfl (by kernel_rfl) (op_runs rfl fun σ w' hx hg => ⟨_, runs_load (ρ := σ.eval) (w := w') (.tmp 18) rfl Try.underlying3 rfl hg.1, rfl⟩) ?_
      refine LinR.step (s := (.val (vb))) [(1, none)] rfl (by kernel_rfl) (op_out 1 (vb) rfl (.inl rfl) rfl) ?_
      refine LinR.step (s := (.val (.int .i64 k))) [(5, none)] rfl (by kernel_rfl) (op_out 5 (.int .i64 k) rfl (.inl rfl) rfl) ?_
      refine LinR.step (s := (Sp.ptr (.int .i64 (l[k])))) [(20, some 1), (21, some 0)] rfl (by kernel_rfl) (op_runs rfl fun σ w' hx hg => rptri (ρ := σ.eval) (w := w') (.tmp 20) (.tmp 21) rfl (hg.1) (K1.ext hx) k hg.2.1 hlt rfl) ?_
      refine LinR.step (s := (.val (.int .i64 (l[k] : Int)))) [(22, some 0)] rfl (by kernel_rfl) (op_runs rfl fun σ w' hx hg => ⟨_, runs_load (ρ := σ.eval) (w := w') (.tmp 22) rfl Try.underlying3 rfl hg.1, rfl⟩) ?_
      refine LinR.step (s := (.val (.bool false))) [(19, some 4), (23, some 0)] rfl (by kernel_rfl) (op_runs rfl fun σ w' hx hg => ⟨(.bool false), by have h19 : σ.tmps.getD 19 undef = .int .i64 (l[k] : Int) := hg.1; have h23 : σ.tmps.getD 23 undef = .int .i64 (l[k] : Int) := hg.2.1; unfold Runs execOp; simp [Act.eval, h19, h23, go_sem], rfl⟩) ?_
      intro wN hxN
      simp only [Fin', Sp.ptr, List.reverse_cons, List.reverse_nil, List.nil_append, List.cons_append]
      intro q18 hq18 q22 hq22
      refine z0z ?_
      go_wp2
      go_roundw
      case rel => exact ⟨k + 1, by go_num, by omega, (hX.trans (Ext.refl _).drew).trans hxN⟩
      case measure => simp [intOf]; omega
    · go_wp2
      go_ret
      exact z2dz
end Go.Proofs.Ytajkjiegcmpjaaa
namespace Go.Proofs.Ytajkjiegcmpjaaa
set_option maxHeartbeats 3200000
set_option maxRecDepth 100000
open Go.RowKit
theorem ksn {S : Nat → Nat} {w w' : World} {p : Nat} {c : CoD} {v : Value} {l : List Int} (o : OwnI w.heap.size w' v l) (h : Cor S w p c) : ∀ k, v.ownBlock = some k → k < w'.heap.size ∧ S k = 0 := fun k hk => by
  obtain ⟨h1, h2⟩ := (show w'.ownsRow w.heap.size 3 1 v (i64s l).length (i64s l) from o).lt k hk
  obtain ⟨sv, dv, q, gp, gs, h⟩ := h
  exact ⟨h2, Classical.byContradiction fun e => by have := h.bnd k e; omega⟩
theorem Cor.ext {S : Nat → Nat} {w w' : World} {p : Nat} {c : CoD} (h : Cor S w p c) (he : Ext w w') : Cor S w' p c := by
  obtain ⟨sv, dv, q, gp, gs, h⟩ := h
  exact ⟨sv, dv, q, gp, gs, h.ext he⟩
theorem nv_A : NV 65536 := nv_known.1
theorem spk_new {me : Nat} {t : List Int} {base most : Int} (ht : StOk t) (hm : me < t.length) : Spk NV 0 (CoD.new me t base most) := ⟨Aux.new ht hm NV.zero, Int.le_refl _, fun a ha => (by cases ha)⟩
theorem commOf_no {g : Tab} {t : List Int} (h : ∀ w i, g 5 w i = none) : g.commOf t = none := by
  unfold Tab.commOf
  rw [List.findSome?_eq_none_iff]
  intro j _
  have hm : g.mostOf t 5 j = none := by
    unfold Tab.mostOf
    rw [List.findSome?_eq_none_iff]
    intro i _
    simp only [h]
  unfold Tab.commAt
  rw [hm]
theorem some_no : ∀ L : List Int, L = [] → some3 [1] L = true → False := by
  rintro _ rfl
  decide
theorem al_ahead {g : Tab} (h : ∀ k (w : Nat) i, 0 < w → g k w i = none) : g.aheadOf [1] 0 = 0 := Tab.aheadOf_self fun j _ hj ha => by
  have hf : g.from' (j : Nat) 0 = false := by
    unfold Tab.from'
    refine decide_eq_false ?_
    rintro ⟨k, h1, h2, h3⟩
    rcases h3 with h3 | h3
    · exact h3 (h 4 k 0 (by omega))
    · exact h3 (h 5 k 0 (by omega))
  exact some_no _ (show picks (g.from' (j : Nat)) (0 + 1) = [] from by rw [picks_succ]; simp [hf, picks]) ha
def AlA : AcV := ⟨-1, ⟨3, 0, 0, 0, 65536, -1⟩⟩
def AlB : AcV := ⟨-1, ⟨4, 0, 0, 0, 65536, 0⟩⟩
def AlC : AcV := ⟨-1, ⟨5, 0, 0, 0, 65536, 0⟩⟩
def Al0 : CoD := ⟨0, [1], 2, 8, [], 0, 1, pat 0 2 8, 65536, T0, fun u => if u = 0 then some (65536, -1) else none, fun _ => none, 0, -1, 0, -1, [AlA]⟩
def Al1 : CoD := { Al0 with step := 2, T := vput T0 4 0 0 65536, out := [AlA, AlB] }
def Al2 : CoD := { Al1 with step := 3, T := vput Al1.T 5 0 0 65536, lv := 65536, lw := 0, vv := 65536, vw := 0, out := [AlA, AlB, AlC] }
def Alive : CoD := (CoD.new 0 [1] 2 8).tick [65536] 65536
theorem al_tock : CoD.tock { CoD.new 0 [1] 2 8 with tip := 65536 } = Al0 := by kernel_rfl
theorem al_s0 : Al0.step1 [65536] = some Al1 := by
  unfold CoD.step1
  rw [if_neg (by decide), show Al0.agreed = none from by
    unfold CoD.agreed
    rw [show Al0.T.commOf Al0.t = none from commOf_no fun _ _ => rfl]
    kernel_rfl]
  show (if Al0.step = 0 then none else _) = _
  rw [if_neg (by decide), if_neg (show ¬ Al0.view < Al0.T.aheadOf Al0.t Al0.view from by
    rw [show Al0.T.aheadOf Al0.t Al0.view = 0 from al_ahead fun _ _ _ _ => rfl]; decide), if_pos (by decide)]
  kernel_rfl
theorem al_s1 : Al1.step1 [65536] = some Al2 := by
  unfold CoD.step1
  rw [if_neg (by decide), show Al1.agreed = none from by
    unfold CoD.agreed
    rw [show Al1.T.commOf Al1.t = none from commOf_no fun w i => by show vput T0 4 0 0 65536 5 w i = none; unfold vput; rw [if_neg fun q => by have := q.1; omega]; rfl]
    kernel_rfl]
  show (if Al1.step = 0 then none else _) = _
  rw [if_neg (by decide), if_neg (show ¬ Al1.view < Al1.T.aheadOf Al1.t Al1.view from by
    rw [show Al1.T.aheadOf Al1.t Al1.view = 0 from al_ahead fun k w i hw => by show vput T0 4 0 0 65536 k w i = none; unfold vput; rw [if_neg fun q => by have := q.2.1; omega]; rfl]; decide), if_neg (by decide)]
  kernel_rfl
theorem al_s2 : Al2.step1 [65536] = some (Al2.conclude 65536) := by
  unfold CoD.step1
  rw [if_neg (by decide), show Al2.agreed = some 65536 from by
    unfold CoD.agreed
    rw [show Al2.T.commOf Al2.t = some 65536 from Tab.commOf_first (j := 0) (by omega) (by kernel_rfl) fun i hi => by omega]
    rfl]
theorem al_s3 : (Al2.conclude 65536).step1 [65536] = none := by
  unfold CoD.step1
  rw [if_neg (by decide), show (Al2.conclude 65536).agreed = none from by
    unfold CoD.agreed
    rw [show (Al2.conclude 65536).T.commOf (Al2.conclude 65536).t = none from commOf_no fun _ _ => rfl]
    kernel_rfl]
  show (if (Al2.conclude 65536).step = 0 then none else _) = _
  rw [if_pos (by decide)]
theorem alive_eq : Alive = Al2.conclude 65536 := by
  have s0 : Spk NV 0 Al0 := by
    have := spk_tock (spk_tip (spk_new (me := 0) (t := [1]) (base := 2) (most := 8) (by decide) (by decide)) nv_A) (by decide)
    rwa [al_tock] at this
  have s1 := spk_step1 s0 NV.zero al_s0
  have s2 := spk_step1 s1 NV.zero al_s1
  have e : Alive = (CoD.settle (CoD.tock { CoD.new 0 [1] 2 8 with tip := 65536 }) [65536]).resend := by
    unfold Alive CoD.tick
    rw [if_neg (by decide)]
  rw [e, al_tock, settle_some s0 NV.zero al_s0, settle_some s1 NV.zero al_s1, settle_some s2 NV.zero al_s2, settle_none al_s3]
  unfold CoD.resend
  rw [if_pos (by decide)]
theorem alive_out : Alive.out = [⟨-1, ⟨3, 0, 0, 0, 65536, -1⟩⟩, ⟨-1, ⟨4, 0, 0, 0, 65536, 0⟩⟩, ⟨-1, ⟨5, 0, 0, 0, 65536, 0⟩⟩, ⟨-1, ⟨6, 0, 0, 0, 65536, 0⟩⟩] := by rw [alive_eq]; kernel_rfl
theorem alive_dec : Alive.dec = [65536] := by rw [alive_eq]; kernel_rfl
theorem alive_step : Alive.step = 0 := by rw [alive_eq]; kernel_rfl
theorem new_alive {w : World} {v : Value} (h : Ints w v [1]) : Calls Try.prog 9 #[.int .i64 0, v, .int .i64 2, .int .i64 8] w fun e w' => ∃ p S', e = .returned (.pointer (some ⟨p, 0, none⟩)) ∧ Cor S' w' p (CoD.new 0 [1] 2 8) ∧ (∀ k, S' k ≤ 6) ∧ (∀ k, S' k ≠ 0 → w.heap.size ≤ k) ∧ Ext w w' :=
  New_any (me := 0) h (by decide) (by decide)
theorem tick_alive {S : Nat → Nat} {w : World} {p : Nat} {kv : Value} (hC : Cor S w p (CoD.new 0 [1] 2 8)) (h6 : ∀ k, S k ≤ 6) (hk : Ints w kv [65536]) (hks : ∀ k, kv.ownBlock = some k → k < w.heap.size ∧ S k = 0) :
    Calls Try.prog 28 #[.pointer (some ⟨p, 0, none⟩), kv, .int .i64 65536] w fun e w' => ∃ S' ov, e = .returned ov ∧ Cor S' w' p Alive ∧ Recs 14 AcR w' ov Alive.out ∧ Stp 1 6 S S' w w' := by
  obtain ⟨sv, dv, q, gp, gs, hC⟩ := hC
  refine (tick_core hC h6 (spk_new (by decide) (by decide)) rfl nv_A hk hks).mono ?_
  rintro e w' ⟨S', ov, rfl, h1, _, h3, _, h5⟩
  exact ⟨S', ov, rfl, h1, h3.acts, h5⟩
theorem alive_any {w : World} : Calls Try.prog 11 #[] w fun e w' => e = .returned (.bool true) ∧ Ext w w' := by
  refine z2cz ?_
  obtain ⟨c, hc0⟩ : ∃ c, Alive = c := ⟨_, rfl⟩
  have hc := hide_ hc0
  obtain ⟨l, hl0⟩ : ∃ l, c.out = l := ⟨_, rfl⟩
  have hl := hide_ hl0
  have hlen : l.length = 4 := by rw [← hl0, ← hc0, alive_out]; rfl
  have h0 := hide_ (show l[0]? = some ⟨-1, ⟨3, 0, 0, 0, 65536, -1⟩⟩ by rw [← hl0, ← hc0, alive_out]; rfl)
  have h1 := hide_ (show l[1]? = some ⟨-1, ⟨4, 0, 0, 0, 65536, 0⟩⟩ by rw [← hl0, ← hc0, alive_out]; rfl)
  have h2 := hide_ (show l[2]? = some ⟨-1, ⟨5, 0, 0, 0, 65536, 0⟩⟩ by rw [← hl0, ← hc0, alive_out]; rfl)
  have h3 := hide_ (show l[3]? = some ⟨-1, ⟨6, 0, 0, 0, 65536, 0⟩⟩ by rw [← hl0, ← hc0, alive_out]; rfl)
  have hll := hide_ hlen
  have hd := hide_ (show c.dec = [65536] by rw [← hc0, alive_dec])
  have hs := hide_ (show c.step = 0 by rw [← hc0, alive_step])
  clear hc0 hl0 hlen
  go_enter Try.func11, Try.ntmps11
  go_wp2_with ((first | go_big_skip | ((with_reducible refine at_lit ?_); refine w_new Try.elI (i64s [1]) rfl rfl rfl (i64s_cells _) rfl (by omega) ?_; intro v3 w3 hx3 o3; replace o3 : OwnI _ w3 v3 [1] := o3) | ((with_reducible refine at_lit ?_); refine w_new Try.elI (i64s [65536]) rfl rfl rfl (i64s_cells _) rfl (by omega) ?_; intro v8 w8 hx8 o8; replace o8 : OwnI _ w8 v8 [65536] := o8; have hb8 := hide_ (Nat.le_refl w8.heap.size)) | (go_at_call 9; refine (new_alive o3.ints).mono ?_; rintro e w4 ⟨p, S4, rfl, hC4, h64, hlo4, hx4⟩; have hX := hide_ (hx3.trans hx4); replace hC4 := hide_ hC4; replace h64 := hide_ h64; have hlo := hide_ (fun k hk => Nat.le_trans hx3.size (hlo4 k hk)); clear hlo4 hx3 hx4 o3) | (go_at_call 28; refine (tick_alive (hC4.out.ext hx8) h64.out o8.ints (ksn o8 hC4.out)).mono ?_; rintro e w5 ⟨S5, ov, rfl, hC5, hr0, hs5⟩; have hX5 := hide_ (hs5.mod.after (hX.out.trans hx8) fun k hk => hlo.out k (by have := hk.1; omega)); rw [hc.out] at hC5 hr0; rw [hl.out] at hr0; have hr := hide_ hr0; obtain ⟨sv, dv, q, gp, gs, hC⟩ := hC5; replace hC := hide_ hC; have hx9 := Ext.refl w5; clear hC4 h64 hlo hX o8 hx8 hs5 hr0) | (go_at_call 29; refine (Decisions_core (hC.out.ext hx9) (by rw [hd.out]; decide)).mono ?_; rintro e w6 ⟨u6, rfl, o6, hx⟩; rw [hd.out] at o6; replace hx9 := hx9.trans hx; clear hx) | ((with_reducible refine at_lit ?_); (try refine w_yes _ _ _ rfl rfl rfl ?_); refine w_new Try.elI (i64s [65536]) rfl rfl rfl (i64s_cells _) rfl (by omega) ?_; intro v7 w7 hx7 o7; replace o7 : OwnI _ w7 v7 [65536] := o7; replace o6 := o6.ext hx7; replace hx9 := hx9.trans hx7; clear hx7) | (go_at_call 24; refine (SameInts_any _ _ [65536] _ o6.ints o7.ints).mono ?_; rintro e wA ⟨rfl, hx⟩; replace hx9 := hx9.trans hx; clear hx) | (go_at_call 12; refine (Index_core (hC.out.ext hx9)).mono ?_; rintro e wB ⟨rfl, hx⟩; rw [hd.out]; replace hx9 := hx9.trans hx; clear hx) | (go_at_call 14; refine (Step_core (hC.out.ext hx9)).mono ?_; rintro e wC ⟨rfl, hx⟩; rw [hs.out]; replace hx9 := hx9.trans hx; clear hx) | ((with_reducible refine at_bi ?_); (try refine w_yes _ _ _ rfl rfl rfl ?_); refine w_rlen Try.elAct _ rfl rfl rfl hr.out ?_; rw [hll.out]) | ((with_reducible refine at_idx ?_); (try refine w_yes _ _ _ rfl rfl rfl ?_); refine w_acidx Try.elAct _ _ 0 rfl rfl rfl rfl hr.out hx9 h0.out ?_; intro pa0 hrow0; replace hrow0 := hide_ hrow0) | ((with_reducible refine at_idx ?_); (try refine w_yes _ _ _ rfl rfl rfl ?_); refine w_acidx Try.elAct _ _ 1 rfl rfl rfl rfl hr.out hx9 h1.out ?_; intro pa1 hrow1; replace hrow1 := hide_ hrow1) | ((with_reducible refine at_idx ?_); (try refine w_yes _ _ _ rfl rfl rfl ?_); refine w_acidx Try.elAct _ _ 2 rfl rfl rfl rfl hr.out hx9 h2.out ?_; intro pa2 hrow2; replace hrow2 := hide_ hrow2) | ((with_reducible refine at_idx ?_); (try refine w_yes _ _ _ rfl rfl rfl ?_); refine w_acidx Try.elAct _ _ 3 rfl rfl rfl rfl hr.out hx9 h3.out ?_; intro pa3 hrow3; replace hrow3 := hide_ hrow3) | ((with_reducible refine at_field ?_); (try refine w_yes _ _ _ rfl rfl rfl ?_); refine w_pfieldB (t := 59) (i := 1) (off := 1) (by kernel_rfl) _ rfl rfl rfl ?_) | ((with_reducible refine at_field ?_); (try refine w_yes _ _ _ rfl rfl rfl ?_); refine w_pfieldB (t := 57) (i := 0) (off := 0) (by kernel_rfl) _ rfl rfl rfl ?_) | ((with_reducible refine at_load ?_); (try refine w_yes _ _ _ rfl rfl rfl ?_); refine w_rowload2 (i := 1) (j := 0) (u := .int .i64 3) _ rfl rfl rfl hrow0.out rfl (agg_of (by kernel_rfl)) ?_) | ((with_reducible refine at_load ?_); (try refine w_yes _ _ _ rfl rfl rfl ?_); refine w_rowload2 (i := 1) (j := 0) (u := .int .i64 4) _ rfl rfl rfl hrow1.out rfl (agg_of (by kernel_rfl)) ?_) | ((with_reducible refine at_load ?_); (try refine w_yes _ _ _ rfl rfl rfl ?_); refine w_rowload2 (i := 1) (j := 0) (u := .int .i64 5) _ rfl rfl rfl hrow2.out rfl (agg_of (by kernel_rfl)) ?_) | ((with_reducible refine at_load ?_); (try refine w_yes _ _ _ rfl rfl rfl ?_); refine w_rowload2 (i := 1) (j := 0) (u := .int .i64 6) _ rfl rfl rfl hrow3.out rfl (agg_of (by kernel_rfl)) ?_) | fail) <;> (try refine z0z ?_))
  go_ret
  exact Keep.intro ⟨rfl, hX5.out.trans hx9⟩
end Go.Proofs.Ytajkjiegcmpjaaa
namespace Go.Proofs.Ytajkjiegcmpjaaa
set_option maxHeartbeats 3200000
set_option maxRecDepth 100000
open Go.RowKit
theorem Lock_core {S : Nat → Nat} {w : World} {p q gp gs : Nat} {sv dv : Value} {c : CoD} (h : CorW S w p sv dv q gp gs c) :
    Calls Try.prog 10 #[.pointer (some ⟨p, 0, none⟩)] w fun e w' => e = .returned (.tuple #[.int .i64 c.lv, .int .i64 c.lw]) ∧ Ext w w' := by
  refine z2cz ?_
  have hC := hide_ h
  have hX := Ext.refl w
  clear h
  go_enter Try.func10, Try.ntmps10
  go_wp2
  refine zpz ?_; intro wd hxd; have F0 := hC.out.obj.ext (hX.trans hxd)
  refine Ph.rest 0 14 (by kernel_rfl) ?_
  refine z2ez ?_
  refine LinL.st [(4, some 0)] rfl opnl ?_
  refine LinL.st [(5, some 0)] rfl (opfb 6 6 6 p) ?_
  refine LinL.st [(6, some 0)] rfl (opfb 6 6 12 p) ?_
  refine LinL.st [(7, some 0)] rfl (opfb 0 0 12 p) ?_
  refine LinL.st [(8, some 0)] rfl (opld (.int .i64 c.lv) F0) ?_
  refine z2ez ?_
  refine LinL.st [(10, some 0)] rfl opnl ?_
  refine LinL.st [(11, some 0)] rfl (opfb 6 6 6 p) ?_
  refine LinL.st [(12, some 0)] rfl (opfb 6 6 12 p) ?_
  refine LinL.st [(13, some 0)] rfl (opfb 1 1 13 p) ?_
  refine LinL.st [(14, some 0)] rfl (opld (.int .i64 c.lw) F0) ?_
  refine LinL.st [(9, some 6)] rfl (opcp (.val (.int .i64 c.lv))) ?_
  refine LinL.st [(15, some 1)] rfl (opcp (.val (.int .i64 c.lw))) ?_
  intro wN hxN
  refine z1dz ?_
  replace hX := hX.trans (hxd.trans hxN)
  go_wp2
  go_ret2
  exact z2dz
end Go.Proofs.Ytajkjiegcmpjaaa
