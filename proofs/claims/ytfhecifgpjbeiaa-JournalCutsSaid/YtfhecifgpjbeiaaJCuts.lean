/- The statement JournalCuts: of records that are cut off anywhere those are found that are whole, from the first one on; and cut there, and written on, all are found. No condition. -/
import Derived.Test.YtfhecifgpjbeiaaJNames
import Derived.Test.YtfhecifgpjbeiaaJRf3
import Derived.Test.YtfhecifgpjbeiaaOwnW
import Derived.Test.YtfhecifgpjbeiaaOwnA
import Derived.Test.YtfhecifgpjbeiaaJReg33
import Derived.Test.YtfhecifgpjbeiaaRegW
import Derived.Test.YtfhecifgpjbeiaaLift
namespace Go.Proofs.Ytfhecifgpjbeiaa
open Go.RowKit Go.ChangeShapes Go.WideShapes Go.ChangeAt

/-- Where each record ends. -/
def endsL (dl : List RecD) : List Int := (List.range dl.length).map fun j => (((cat (dl.take (j + 1))).length : Nat) : Int)
theorem endsL_len (dl : List RecD) : (endsL dl).length = dl.length := by simp [endsL]
theorem endsL_get (dl : List RecD) {k : Nat} (hk : k < (endsL dl).length) : (endsL dl)[k] = (((cat (dl.take (k + 1))).length : Nat) : Int) := by simp [endsL]
theorem endsL_snoc (dl : List RecD) (r : RecD) : endsL dl ++ [(((cat (dl ++ [r])).length : Nat) : Int)] = endsL (dl ++ [r]) := by
  unfold endsL
  rw [List.length_append, List.length_singleton, List.range_succ, List.map_append, List.map_singleton]
  congr 1
  · refine List.map_congr_left fun j hj => ?_
    rw [List.take_append_of_le_length (by have := List.mem_range.1 hj; omega)]
  · rw [List.take_of_length_le (by simp)]
/-- What is found of records that are cut off. -/
theorem cut_recs {dl : List RecD} (h : ∀ r ∈ dl, r.Ok) {nn wh : Nat} (h1 : wh ≤ dl.length) (h2 : (cat (dl.take wh)).length ≤ nn) (h3 : wh < dl.length → nn < (cat (dl.take (wh + 1))).length) :
    recs ((cat dl).take nn) = dl.take wh ∧ cat (dl.take wh) <+: (cat dl).take nn := by
  obtain ⟨kk, g1, g2, g3, g4⟩ := recs_take dl h nn
  have e : kk = wh := by
    rcases Nat.lt_trichotomy kk wh with hk | hk | hk
    · have := g4 (by omega)
      have := cat_mono dl (show kk + 1 ≤ wh by omega)
      omega
    · exact hk
    · have h4 := h3 (by omega)
      have h5 := cat_mono dl (show wh + 1 ≤ kk by omega)
      have h6 := g3.length_le
      rw [List.length_take] at h6
      omega
  subst e
  exact ⟨g2, g3⟩
/-- The disk with what is whole, cut there. -/
theorem cut_disk {dl T : List RecD} {nn : Nat} (hp : cat T <+: (cat dl).take nn) (hn : nn ≤ 65536) : (((DSt.new 65536).app ((cat dl).take nn)).cut ((cat T).length : Nat)).l = cat T := by
  have h1 : ((cat dl).take nn).length ≤ (DSt.new 65536).room := by
    show _ ≤ bet 65536 65536 - 0
    rw [List.length_take]; unfold bet; omega
  unfold DSt.app
  rw [if_pos h1]
  show ((DSt.new 65536).l ++ (cat dl).take nn).take (bet ((cat T).length : Nat) _) = cat T
  have h2 : (DSt.new 65536).l ++ (cat dl).take nn = (cat dl).take nn := rfl
  have h3 := hp.length_le
  simp only [h2]
  have h4 : bet ((cat T).length : Nat) ((cat dl).take nn).length = (cat T).length := by unfold bet; omega
  rw [h4]; exact (List.prefix_iff_eq_take.1 hp).symm

set_option maxRecDepth 100000 in
set_option maxHeartbeats 12800000 in
theorem journalCuts_law (v : Value) (l : List RecD) (n : Int) (row0 : List Value) (r : RecD) (W : World) (hl : Recs 5 RecR W v l) (hrr : RecR W row0 r) (hni : -9223372036854775808 ≤ n ∧ n ≤ 9223372036854775807) :
    Calls Try.prog 8 #[v, .int .i64 n, .agg row0.toArray] W fun e w' => e = .returned (.bool true) ∧ Ext W w' := by
  obtain ⟨⟨u, rfl, hu⟩, hraw⟩ := hrr
  replace hraw := hide_ hraw
  refine calls_keep ?_
  by_cases hbig : 30 < l.length
  · have t0 : decide ((30 : Int) < (l.length : Int)) = true := by simp; omega
    clear hbig
    go_enter Try.func8, Try.ntmps8
    go_wp2_with ((first
      | (refine w_box _ [.int .i64 r.k, .int .i64 r.i, .int .i64 r.v, .int .i64 r.x, u] rfl rfl rfl rfl ?_; intro g5 w1 hg5 hX0 f50; obtain ⟨W1, hW1⟩ : ∃ W1, W1 = w1 := ⟨_, rfl⟩; have hX : Ext W1 w1 := hW1 ▸ Ext.refl w1; have f5 : Fs W1 g5 [.int .i64 r.k, .int .i64 r.i, .int .i64 r.v, .int .i64 r.x, u] := hW1 ▸ f50; have hXW : Ext W W1 := hW1 ▸ hX0; have hl1 : Recs 5 RecR W1 v l := hl.ext RecR.stays hXW; have hu1 := hu.ext hXW; clear hW1 f50 hX0 hg5)
      | (go_at_call 10; refine (alive_any _).mono ?_; rintro e w2 ⟨rfl, hx⟩; replace hX := hX.trans hx; clear hx)
      | (refine w_rlen Try.elRec _ rfl rfl (v := v) rfl (hl1.ext RecR.stays hX) ?_)
      | fail) <;> (try simp only [Act.put, List.setIfInBounds_toArray, List.set_cons_zero, List.set_cons_succ]))
    go_ret
    exact Keep.intro ⟨rfl, hXW.trans hX⟩
  have t0 : decide ((30 : Int) < (l.length : Int)) = false := by simp; omega
  have h30 : l.length ≤ 30 := by omega
  clear hbig
  by_cases hneg : n < 0
  · have t00 : decide (n < 0) = true := by simpa using hneg
    clear hneg
    go_enter Try.func8, Try.ntmps8
    go_wp2_with ((first
      | (refine w_box _ [.int .i64 r.k, .int .i64 r.i, .int .i64 r.v, .int .i64 r.x, u] rfl rfl rfl rfl ?_; intro g5 w1 hg5 hX0 f50; obtain ⟨W1, hW1⟩ : ∃ W1, W1 = w1 := ⟨_, rfl⟩; have hX : Ext W1 w1 := hW1 ▸ Ext.refl w1; have f5 : Fs W1 g5 [.int .i64 r.k, .int .i64 r.i, .int .i64 r.v, .int .i64 r.x, u] := hW1 ▸ f50; have hXW : Ext W W1 := hW1 ▸ hX0; have hl1 : Recs 5 RecR W1 v l := hl.ext RecR.stays hXW; have hu1 := hu.ext hXW; clear hW1 f50 hX0 hg5)
      | (go_at_call 10; refine (alive_any _).mono ?_; rintro e w2 ⟨rfl, hx⟩; replace hX := hX.trans hx; clear hx)
      | (refine w_rlen Try.elRec _ rfl rfl (v := v) rfl (hl1.ext RecR.stays hX) ?_)
      | fail) <;> (try simp only [Act.put, List.setIfInBounds_toArray, List.set_cons_zero, List.set_cons_succ]))
    go_ret
    exact Keep.intro ⟨rfl, hXW.trans hX⟩
  have t00 : decide (n < 0) = false := by simpa using hneg
  have Hneg := hide_ hneg
  clear hneg
  go_enter Try.func8, Try.ntmps8
  go_wp2_with ((first
    | (refine w_box _ [.int .i64 r.k, .int .i64 r.i, .int .i64 r.v, .int .i64 r.x, u] rfl rfl rfl rfl ?_; intro g5 w1 hg5 hX0 f50; obtain ⟨W1, hW1⟩ : ∃ W1, W1 = w1 := ⟨_, rfl⟩; have hX : Ext W1 w1 := hW1 ▸ Ext.refl w1; have f5 : Fs W1 g5 [.int .i64 r.k, .int .i64 r.i, .int .i64 r.v, .int .i64 r.x, u] := hW1 ▸ f50; have hXW : Ext W W1 := hW1 ▸ hX0; have hl1 : Recs 5 RecR W1 v l := hl.ext RecR.stays hXW; have hu1 := hu.ext hXW; clear hW1 f50 hX0 hg5)
    | (go_at_call 10; refine (alive_any _).mono ?_; rintro e w2 ⟨rfl, hx⟩; replace hX := hX.trans hx; clear hx)
    | (refine w_bempty (o := ⟨some 30, _, _, _, _, _⟩) rfl rfl ?_; intro v7 w3 B hB1 hB2 hx o1; have hA := OwnA.of (W := W1) o1 (Nat.le_trans hX.size hB1); replace hX := hX.trans hx; clear o1 hB1 hB2 hx)
    | (refine w_nnew (o := ⟨some 31, _, _, _, _, _⟩) Try.elRecN [] rfl rfl rfl (by simp) rfl (by omega) ?_; intro v8 w4 B hB1 hB2 hx hn; have hw := OwnW.empty (W := W1) hn (fun k hk => Nat.le_trans hX.size (Nat.le_trans hB1 hk.1)); have dWA : ∀ k, v8.ownBlock = some k → ¬ v7.ownBlock = some k := (fun k hk h => by have := (hn.inF k hk).1; have := hA.lt h; omega); replace hA := hA.ext hx; replace hX := hX.trans hx; clear hn hx hB1 hB2)
    | (refine w_new (o := ⟨some 32, _, _, _, _, _⟩) Try.elI (i64s []) rfl rfl rfl (i64s_cells _) rfl (by omega) ?_; intro v9 w5 hx o9; have hE := OwnA.of (W := W1) o9 hX.size; have dEA : ∀ k, v9.ownBlock = some k → ¬ v7.ownBlock = some k := (fun k hk h => by have := (World.ownsRow.lt o9 k hk).1; have := hA.lt h; omega); have dEW : ∀ k, v9.ownBlock = some k → ¬ v8.ownBlock = some k := (fun k hk h => by have := (World.ownsRow.lt o9 k hk).1; have := hw.lt h; omega); replace hA := hA.ext hx; replace hw := hw.ext hx; replace hX := hX.trans hx; clear o9 hx)
    | (refine w_rlen Try.elRec _ rfl rfl (v := v) rfl (hl1.ext RecR.stays hX) ?_)
    | fail) <;> (try simp only [Act.put, List.setIfInBounds_toArray, List.set_cons_zero, List.set_cons_succ]))
  go_loopw [35, 7, 8, 9] (fun i va vw ve wr => ∃ (k : Nat) (dl : List RecD), i = .int .i64 k ∧ k ≤ l.length ∧ dl.length ≤ k ∧ OwnA W1 wr 5 va (u8s (cat dl)) ∧ OwnW W1 wr vw dl ∧ OwnA W1 wr 3 ve (i64s (endsL dl)) ∧ Hid ((∀ j, vw.ownBlock = some j → ¬ va.ownBlock = some j) ∧ (∀ j, ve.ownBlock = some j → ¬ va.ownBlock = some j) ∧ (∀ j, ve.ownBlock = some j → ¬ vw.ownBlock = some j)) ∧ Ext W1 wr ∧ Hid (∀ r ∈ dl, r.Ok ∧ ∀ x ∈ r.t, x < 256)) (fun i _ _ _ _ => l.length - (intOf i).toNat)
  case atStart => exact ⟨0, [], rfl, Nat.zero_le _, Nat.le_refl _, hA, hw, hE, hide_ ⟨dWA, dEA, dEW⟩, hX, hide_ (by simp)⟩
  case round =>
    clear hA hw hE dWA dEA dEW hX
    obtain ⟨k, dl, rfl, hk, hdk, hA, hw, hE, hdis, hX, hI⟩ := hrel
    obtain ⟨va, hva⟩ : ∃ va, va = u7 := ⟨_, rfl⟩
    obtain ⟨vw, hvw⟩ : ∃ vw, vw = u8 := ⟨_, rfl⟩
    obtain ⟨ve, hve⟩ : ∃ ve, ve = u9 := ⟨_, rfl⟩
    rw [← hva] at hA hdis
    rw [← hvw] at hw hdis
    rw [← hve] at hE hdis
    subst hva hvw hve
    obtain ⟨dWA, dEA, dEW⟩ := hdis.out
    have hcl := cat_le dl (fun r hr => (hI.out r hr).1)
    by_cases hge : l.length ≤ k
    · have t1 : decide (k < l.length) = false := by simpa using hge
      obtain ⟨nn, hnn0⟩ : ∃ nn, nn = min n.toNat (cat dl).length := ⟨_, rfl⟩
      have hmin := hide_ (show ((nn : Nat) : Int) = min n ((cat dl).length : Int) from by have := Hneg.out; omega)
      have hnn := hide_ (show nn ≤ (cat dl).length from by omega)
      have hel := hide_ (endsL_len dl)
      have hd30 := hide_ (show dl.length ≤ 30 from by omega)
      have hcl2 := hide_ (show (cat dl).length ≤ 31440 from by omega)
      clear hge hk hdk hdis hcl hnn0 dWA dEA dEW
      go_wp2_with ((first
        | (refine b_len _ rfl rfl (v := va) rfl (show Byt _ va (cat dl) from hA.sl) ?_)
        | (refine w_min _ _ (nn : Nat) hmin.out rfl rfl rfl rfl ?_)
        | (refine i_len _ rfl rfl (v := ve) rfl (show Ints _ ve (endsL dl) from hE.sl) ?_; rw [hel.out])
        | fail) <;> (try simp only [Act.put, List.setIfInBounds_toArray, List.set_cons_zero, List.set_cons_succ]))
      go_loopw [65, 14, 15] (fun i wv av wr => ∃ (k wh : Nat), i = .int .i64 k ∧ wv = .int .i64 wh ∧ av = .int .i64 ((cat (dl.take wh)).length : Nat) ∧ k ≤ dl.length ∧ Hid (wh ≤ k ∧ (cat (dl.take wh)).length ≤ nn ∧ (wh < k → nn < (cat (dl.take (wh + 1))).length)) ∧ OwnA W1 wr 5 va (u8s (cat dl)) ∧ OwnW W1 wr vw dl ∧ OwnA W1 wr 3 ve (i64s (endsL dl)) ∧ Ext W1 wr) (fun i _ _ _ => dl.length - (intOf i).toNat)
      case atStart => exact ⟨0, 0, rfl, rfl, rfl, Nat.zero_le _, hide_ (by simp [cat]), hA, hw, hE, hX⟩
      case round =>
        clear hA hw hE hX
        obtain ⟨k, wh, rfl, rfl, rfl, hk, hwi, hA, hw, hE, hX⟩ := hrel
        by_cases hge : dl.length ≤ k
        · have t1 : decide (k < dl.length) = false := by simpa using hge
          obtain ⟨c1, c2, c3⟩ := hwi.out
          have hkd : k = dl.length := by omega
          subst hkd
          obtain ⟨hrec0, hpre⟩ := cut_recs (fun r hr => (hI.out r hr).1) c1 c2 c3
          have hrec := hide_ hrec0
          have hwhd := hide_ c1
          have hc1 := hide_ (show ∀ x ∈ (cat dl).take nn, x < 256 from fun x hx => cat_lt dl hI.out x (List.mem_of_mem_take hx))
          have hc2 := hide_ (show ((cat dl).take nn).length ≤ 1000000000000 from by have := hcl2.out; simp; omega)
          have hb82 := hide_ (show ([] : List Nat).length + ((cat dl).take nn).length ≤ 140737488355328 from by have := hcl2.out; simp; omega)
          obtain ⟨Dq, hDq0⟩ : ∃ Dq, ((DSt.new 65536).app ((cat dl).take nn)).cut ((cat (dl.take wh)).length : Nat) = Dq := ⟨_, rfl⟩
          have hDl : Dq.l = cat (dl.take wh) := by rw [← hDq0]; exact cut_disk hpre (by have := hcl2.out; have := hnn.out; omega)
          have hDq := hide_ hDq0
          have hT : ∀ x ∈ dl.take wh, x.Ok ∧ ∀ y ∈ x.t, y < 256 := fun x hx => hI.out x (List.mem_of_mem_take hx)
          clear hge hk hwi c1 c2 c3 hrec0 hpre hE hDq0 hel
          by_cases hE : jAddE Dq r = 0
          · have te : (((jAddE Dq r : Nat) : Int) == 0) = true := by rw [hE]; rfl
            obtain ⟨hrok, hD3⟩ := jAdd_yes hE
            have hT2 : ∀ x ∈ dl.take wh ++ [r], x.Ok ∧ ∀ y ∈ x.t, y < 256 := fun x hx => (List.mem_append.1 hx).elim (hT x) (fun h => by rw [List.mem_singleton] at h; subst h; exact ⟨hrok, hraw.out.t.1⟩)
            have hD3l : (jAdd Dq r).l = cat (dl.take wh ++ [r]) := by rw [hD3, cat_snoc, ← hDl]
            have hres := hide_ (show recs (jAdd Dq r).l = dl.take wh ++ [r] from by
              have := recs_app (dl.take wh ++ [r]) (fun x hx => (hT2 x hx).1) []
              rw [List.append_nil, recs_nil, List.append_nil] at this
              rw [hD3l]; exact this)
            have hlt3 := hide_ (show ∀ x ∈ (jAdd Dq r).l, x < 256 from by rw [hD3l]; exact cat_lt _ hT2)
            clear hE hrok hD3 hT2 hD3l hT hDl
            go_wp2_with ((first
              | (refine w_bempty (o := ⟨some 78, _, _, _, _, _⟩) rfl rfl ?_; intro v78 wn B hB1 hBl hxn o1; have hxb := hxn; clear hxn)
              | (refine b_to (o := ⟨some 81, _, _, _, _, _⟩) _ _ nn rfl rfl (v := va) rfl ((show Byt _ va (cat dl) from hA.sl).ext hxb) rfl hnn.out ?_; intro v81 b81)
              | (refine appb (o := ⟨some 82, _, _, _, _, _⟩) _ _ rfl rfl rfl rfl o1 b81 hb82.out hBl ?_; intro v82 wa o2 hba hga; rw [List.nil_append] at o2; have hx := hxb.trans' (hba.mono hB1); have b82 := o2.byt; replace hA := hA.ext hx; replace hw := hw.ext hx; replace hX := hX.trans hx; clear o1 hba hga hxb hBl hB1 hx o2 b81)
              | (go_at_call 9; refine (Scan_any hc1.out hc2.out b82).mono ?_; rintro e wd ⟨v18, rfl, hx, hJ⟩; rw [hrec.out] at hJ; rw [hrec.out]; have j18 := hJ.recs; replace hA := hA.ext hx; replace hw := hw.ext hx; replace hX := hX.trans hx; clear b82 hJ hx)
              | ((try refine w_yes _ _ _ rfl rfl rfl ?_); refine w_nto (o := ⟨some 93, _, _, _, _, _⟩) Try.elRec _ _ wh rfl rfl rfl rfl (hw.recs hX) hwhd.out ?_; intro v93 j93)
              | ((try refine w_yes _ _ _ rfl rfl rfl ?_); go_at_call 14; refine (Same_yes j18 j93).mono ?_; rintro e we ⟨rfl, hx⟩; replace hA := hA.ext hx; replace hw := hw.ext hx; replace hX := hX.trans hx; clear j18 j93 hx)
              | (go_at_call 15; ((with_reducible refine (New_any _ _).mono ?_); rintro e w2 ⟨p, rfl, hx1, hd⟩; have hO := Out.of_new hX hx1 hd; obtain ⟨A, rfl⟩ := hd.ne_nil; obtain ⟨F, hd, hO, dF⟩ : ∃ F, Dsk F w2 (.pointer (some A)) (.new 65536) ∧ Out W1 F w2 ∧ ∀ k, vw.ownBlock = some k → ¬ F k := ⟨_, hd, hO, fun k hk h => by have := hw.lt hk; have := h.1; omega⟩; replace hA := hA.ext hx1; replace hw := hw.ext hx1; clear hX hx1))
              | (refine b_to (o := ⟨some 101, _, _, _, _, _⟩) _ _ nn rfl rfl (v := va) rfl (show Byt _ va (cat dl) from hA.sl) rfl hnn.out ?_; intro v101 b101)
              | (go_at_call 23; refine (Append_any hd b101).mono ?_; rintro e wz ⟨F', rfl, hup, hd'⟩; have dF' : ∀ k, vw.ownBlock = some k → ¬ F' k := (fun k hk h => (hup.sub k h).elim (dF k hk) (fun e => by have := hw.lt hk; omega)); replace hw := hw.mod hup.mod dF; replace hO := hO.upd hup; replace hd := hd'; clear hup hd' dF b101 hA)
              | (go_at_call 27; refine (Cut_any _ hd).mono ?_; rintro e wz ⟨rfl, hm, hd'⟩; rw [hDq.out] at hd'; replace hw := hw.mod hm dF'; replace hO := hO.upd hm.upd; replace hd := hd'; clear hm hd')
              | (refine w_aload Try.stRec _ rfl rfl rfl (f5.ext hO.ext) rfl ?_)
              | (go_at_call 17; refine (JAdd_any (RecR.made (r := r) hu1 hraw.out hO.ext) hd).mono ?_; rintro e wz ⟨F'', rfl, hup, hd'⟩; replace hw := hw.mod hup.mod dF'; replace hO := hO.upd hup; replace hd := hd'; clear hup hd' dF')
              | fail) <;> (try simp only [Act.put, List.setIfInBounds_toArray, List.set_cons_zero, List.set_cons_succ]))
            refine wp_region_inv (by kernel_rfl) (by kernel_rfl) ?_
            intro wd hxd
            replace hd := hd.ext hxd
            replace hO := hO.extend hxd
            replace hw := hw.ext hxd
            have f5x := f5.ext hO.ext
            have jw := hw.recs hO.ext
            have hrr : RecR wd [.int .i64 r.k, .int .i64 r.i, .int .i64 r.v, .int .i64 r.x, u] r := RecR.made hu1 hraw.out hO.ext
            have hTl : (dl.take wh).length ≤ 30 := by have := hd30.out; simp; omega
            refine ⟨fun listed a' w' => a'.tmps.size = 121 ∧ a'.defers = [] ∧ I33 wd (.pointer (some A)) vw wh g5 [.int .i64 r.k, .int .i64 r.i, .int .i64 r.v, .int .i64 r.x, u] (dl.take wh) r w' (fun t => a'.tmps.getD t undef) (fun j => listed[j]? = some true), ⟨rfl, rfl, ?_⟩, ?_, ?_⟩
            · exact ⟨Ext.refl _, rfl, rfl, rfl, rfl, fun h => absurd h (not_listed _ _), fun h => absurd h (not_listed _ _), fun h => absurd h (not_listed _ _), fun h => absurd h (not_listed _ _), fun h => absurd h (not_listed _ _), fun h => absurd h (not_listed _ _), fun h => absurd h (not_listed _ _), fun h => absurd h (not_listed _ _), fun h => absurd h (not_listed _ _), fun h => absurd h (not_listed _ _), fun h => absurd h (not_listed _ _), fun h => absurd h (not_listed _ _)⟩
            · intro listed a' w' i o hls hinv ho hun hdeps hlater
              obtain ⟨hsz, hdf, h⟩ := hinv
              have hi : i < 12 := (Array.getElem?_eq_some_iff.1 ho).1
              have hls' : listed.size = 12 := hls
              rcases (show i = 0 ∨ i = 1 ∨ i = 2 ∨ i = 3 ∨ i = 4 ∨ i = 5 ∨ i = 6 ∨ i = 7 ∨ i = 8 ∨ i = 9 ∨ i = 10 ∨ i = 11 by omega) with rfl | rfl | rfl | rfl | rfl | rfl | rfl | rfl | rfl | rfl | rfl | rfl
              · refine wpOp_of_list rfl ?_
                refine w_mv _ rfl (.inl rfl) h.o20 ?_
                exact I33.fin (by omega) (by omega) hsz hdf (h.s0 (Ext.refl _) rfl)
              · have l0 := deps_of ho hdeps 0 (by kernel_rfl)
                have e0 : a'.tmps.getD 110 undef = .pointer (some A) := h.c0 l0
                refine wpOp_call 26 #[.pointer (some A)] 111 rfl rfl rfl rfl (fun _ _ => rfl) (by simp only [List.map_toArray, List.map_cons, List.map_nil, Act.eval]; rw [e0]) ?_
                refine (Read_any hlt3.out (hd.ext h.x)).mono ?_
                rintro e w1 ⟨v1, rfl, hx, hJ⟩
                rw [hres.out] at hJ
                exact ⟨_, rfl, I33.fin (by omega) (by omega) hsz hdf (h.s1 hx (fun w'' hm => hJ.stab hm (fun k hk => h.priv_lt hk)))⟩
              · have n6 := later_of hlater 6 (by kernel_rfl)
                refine wpOp_of_list rfl ?_
                refine w_nempty Try.elRecN rfl rfl rfl rfl ?_
                intro ad w1 had hx hn
                exact I33.fin (by omega) (by omega) hsz hdf (h.s2 hx ⟨OwnW.empty (F := fun k => k = ad.block) hn (fun k hk => hk ▸ Nat.le_trans h.x.size had), ad, rfl⟩ (fun k hk => by cases hk; exact had) n6)
              · refine wpOp_of_list rfl ?_
                refine w_mv _ rfl (.inl rfl) h.o8 ?_
                exact I33.fin (by omega) (by omega) hsz hdf (h.s3 (Ext.refl _) rfl)
              · refine wpOp_of_list rfl ?_
                refine w_mv _ rfl (.inl rfl) h.o14 ?_
                exact I33.fin (by omega) (by omega) hsz hdf (h.s4 (Ext.refl _) rfl)
              · have l3 := deps_of ho hdeps 3 (by kernel_rfl)
                have l4 := deps_of ho hdeps 4 (by kernel_rfl)
                refine wpOp_of_list rfl ?_
                refine w_nto0 Try.elRec _ _ wh rfl rfl (h.c3 l3) (h.c4 l4) jw hwhd.out ?_
                intro v5 hv5
                exact I33.fin (by omega) (by omega) hsz hdf (h.s5 (Ext.refl _) hv5)
              · have l2 := deps_of ho hdeps 2 (by kernel_rfl)
                have l5 := deps_of ho hdeps 5 (by kernel_rfl)
                have n6 : ¬ listed[6]? = some true := by rw [hun]; simp
                have n9 := later_of hlater 9 (by kernel_rfl)
                obtain ⟨o2, sh2⟩ := h.c2 l2 n6
                obtain ⟨v6, w1, hr, hm, hv6, hk6⟩ := run_clone33 (E := Try.elRecN) 22 o2 sh2 h.x (h.c5 l5) (by omega)
                refine wpOp_of_list rfl ?_
                refine w_apprun _ _ rfl rfl rfl rfl hr ?_
                exact I33.fin (by omega) (by omega) hsz hdf (h.s6 (hm.mono (fun k _ hk => .inl ⟨l2, n6, hk⟩)) (hm.after h.x (fun k hk => o2.new k hk)) hv6 hk6 l2 n6 n9)
              · refine wpOp_of_list rfl ?_
                refine w_aload Try.stRec _ rfl rfl h.o5 (f5x.ext h.x) rfl ?_
                exact I33.fin (by omega) (by omega) hsz hdf (h.s7 (Ext.refl _) rfl)
              · have l7 := deps_of ho hdeps 7 (by kernel_rfl)
                have e7 : a'.tmps.getD 117 undef = .agg #[.int .i64 r.k, .int .i64 r.i, .int .i64 r.v, .int .i64 r.x, u] := h.c7 l7
                refine wpOp_of_list rfl ?_
                refine w_nnew Try.elRecN [[.int .i64 r.k, .int .i64 r.i, .int .i64 r.v, .int .i64 r.x, u]] rfl rfl (by show [(0, a'.tmps.getD 117 undef)] = _; rw [e7]; rfl) (by intro y hy; simp at hy; subst hy; rfl) rfl (by omega) ?_
                intro vl w1 B hB1 hB2 hx hn
                exact I33.fin (by omega) (by omega) hsz hdf (h.s8 hx (fun w'' hm => (hn.mod hm (fun k hk hp => by have := h.priv_lt hp; omega)).slS))
              · have l6 := deps_of ho hdeps 6 (by kernel_rfl)
                have l8 := deps_of ho hdeps 8 (by kernel_rfl)
                have n9 : ¬ listed[9]? = some true := by rw [hun]; simp
                have hs8 := h.c8 l8 n9 w' (Mod.refl _ _)
                obtain ⟨⟨rows, h1, h2, h3⟩, h4⟩ := h.c6 l6 n9
                refine wpOp_of_list rfl ?_
                refine w_napp Try.elRecN _ _ rfl rfl rfl rfl h1 hs8 (by simp) (by intro y hy; simp at hy; subst hy; exact rec5_one hu1.one') (by simp only [List.length_singleton]; omega) ?_
                intro v9 w1 hm9 hn9
                exact I33.fin (by omega) (by omega) hsz hdf (h.s9 (hm9.mono (fun k _ hk => .inr ⟨l6, n9, hk⟩)) (hm9.after h.x h4) (OwnW.app h.x.size h2 h3 h4 hrr hn9) l6)
              · have l1 := deps_of ho hdeps 1 (by kernel_rfl)
                have l9 := deps_of ho hdeps 9 (by kernel_rfl)
                refine wpOp_call 14 #[a'.tmps.getD 111 undef, a'.tmps.getD 119 undef] 120 rfl rfl rfl rfl (fun _ _ => rfl) (by simp only [List.map_toArray, List.map_cons, List.map_nil, Act.eval]) ?_
                refine (Same_yes (h.c1 l1 w' (Mod.refl _ _)) ((h.c9 l9).recs h.x)).mono ?_
                rintro e w1 ⟨rfl, hx⟩
                exact ⟨_, rfl, I33.fin (by omega) (by omega) hsz hdf (h.s10 hx rfl)⟩
              · have l10 := deps_of ho hdeps 10 (by kernel_rfl)
                refine wpOp_of_list rfl ?_
                refine w_mv _ rfl (.inr rfl) (h.c10 l10) ?_
                exact I33.fin (by omega) (by omega) hsz hdf (h.s11 (Ext.refl _) rfl)
            · intro listed a' w' hall hinv
              obtain ⟨hsz, hdf, h⟩ := hinv
              have h6 : a'.tmps.getD 6 undef = .bool true := h.c11 (hall 11 (by decide))
              have hx9 := hXW.trans (hO.ext.trans h.x)
              go_wp2
              exact bodyPost_ret (results_tmp rfl _ _ _) hdf (Keep.intro ⟨by rw [h6], hx9⟩)
          · have te : (((jAddE Dq r : Nat) : Int) == 0) = false := by rw [beq_eq_false_iff_ne]; omega
            clear hE hT hDl
            go_wp2_with ((first
              | (refine w_bempty (o := ⟨some 78, _, _, _, _, _⟩) rfl rfl ?_; intro v78 wn B hB1 hBl hxn o1; have hxb := hxn; clear hxn)
              | (refine b_to (o := ⟨some 81, _, _, _, _, _⟩) _ _ nn rfl rfl (v := va) rfl ((show Byt _ va (cat dl) from hA.sl).ext hxb) rfl hnn.out ?_; intro v81 b81)
              | (refine appb (o := ⟨some 82, _, _, _, _, _⟩) _ _ rfl rfl rfl rfl o1 b81 hb82.out hBl ?_; intro v82 wa o2 hba hga; rw [List.nil_append] at o2; have hx := hxb.trans' (hba.mono hB1); have b82 := o2.byt; replace hA := hA.ext hx; replace hw := hw.ext hx; replace hX := hX.trans hx; clear o1 hba hga hxb hBl hB1 hx o2 b81)
              | (go_at_call 9; refine (Scan_any hc1.out hc2.out b82).mono ?_; rintro e wd ⟨v18, rfl, hx, hJ⟩; rw [hrec.out] at hJ; rw [hrec.out]; have j18 := hJ.recs; replace hA := hA.ext hx; replace hw := hw.ext hx; replace hX := hX.trans hx; clear b82 hJ hx)
              | ((try refine w_yes _ _ _ rfl rfl rfl ?_); refine w_nto (o := ⟨some 93, _, _, _, _, _⟩) Try.elRec _ _ wh rfl rfl rfl rfl (hw.recs hX) hwhd.out ?_; intro v93 j93)
              | ((try refine w_yes _ _ _ rfl rfl rfl ?_); go_at_call 14; refine (Same_yes j18 j93).mono ?_; rintro e we ⟨rfl, hx⟩; replace hA := hA.ext hx; replace hw := hw.ext hx; replace hX := hX.trans hx; clear j18 j93 hx)
              | (go_at_call 15; ((with_reducible refine (New_any _ _).mono ?_); rintro e w2 ⟨p, rfl, hx1, hd⟩; have hO := Out.of_new hX hx1 hd; obtain ⟨A, rfl⟩ := hd.ne_nil; obtain ⟨F, hd, hO, dF⟩ : ∃ F, Dsk F w2 (.pointer (some A)) (.new 65536) ∧ Out W1 F w2 ∧ ∀ k, vw.ownBlock = some k → ¬ F k := ⟨_, hd, hO, fun k hk h => by have := hw.lt hk; have := h.1; omega⟩; replace hA := hA.ext hx1; replace hw := hw.ext hx1; clear hX hx1))
              | (refine b_to (o := ⟨some 101, _, _, _, _, _⟩) _ _ nn rfl rfl (v := va) rfl (show Byt _ va (cat dl) from hA.sl) rfl hnn.out ?_; intro v101 b101)
              | (go_at_call 23; refine (Append_any hd b101).mono ?_; rintro e wz ⟨F', rfl, hup, hd'⟩; have dF' : ∀ k, vw.ownBlock = some k → ¬ F' k := (fun k hk h => (hup.sub k h).elim (dF k hk) (fun e => by have := hw.lt hk; omega)); replace hw := hw.mod hup.mod dF; replace hO := hO.upd hup; replace hd := hd'; clear hup hd' dF b101 hA)
              | (go_at_call 27; refine (Cut_any _ hd).mono ?_; rintro e wz ⟨rfl, hm, hd'⟩; rw [hDq.out] at hd'; replace hw := hw.mod hm dF'; replace hO := hO.upd hm.upd; replace hd := hd'; clear hm hd')
              | (refine w_aload Try.stRec _ rfl rfl rfl (f5.ext hO.ext) rfl ?_)
              | (go_at_call 17; refine (JAdd_any (RecR.made (r := r) hu1 hraw.out hO.ext) hd).mono ?_; rintro e wz ⟨F'', rfl, hup, hd'⟩; replace hw := hw.mod hup.mod dF'; replace hO := hO.upd hup; replace hd := hd'; clear hup hd' dF')
              | fail) <;> (try simp only [Act.put, List.setIfInBounds_toArray, List.set_cons_zero, List.set_cons_succ]))
            go_ret
            exact Keep.intro ⟨rfl, hXW.trans hO.ext⟩
        have hlt : k < dl.length := by omega
        have t1 : decide (k < dl.length) = true := by simpa using hlt
        have hlte := hide_ (show k < (endsL dl).length from by rw [endsL_len]; exact hlt)
        have hget := hide_ (endsL_get dl hlte.out)
        have hEi : Ints _ ve (endsL dl) := hE.sl
        have hkb : k ≤ 30 := by have := hd30.out; omega
        obtain ⟨c1, c2, c3⟩ := hwi.out
        by_cases hle : (cat (dl.take (k + 1))).length ≤ nn
        · have t2 : decide ((cat (dl.take (k + 1))).length ≤ nn) = true := by simpa using hle
          have hw2 := hide_ (show k + 1 ≤ k + 1 ∧ (cat (dl.take (k + 1))).length ≤ nn ∧ (k + 1 < k + 1 → nn < (cat (dl.take (k + 1 + 1))).length) from ⟨Nat.le_refl _, hle, fun h => by omega⟩)
          clear hle hge hwi c1 c2 c3
          go_wp2_with ((first
            | (refine i_idx _ _ k rfl rfl (v := ve) rfl hEi rfl hlte.out ?_; intro ad had; rw [hget.out] at had)
            | fail) <;> (try simp only [Act.put, List.setIfInBounds_toArray, List.set_cons_zero, List.set_cons_succ]))
          go_roundw
          case rel => exact ⟨k + 1, k + 1, by go_num, by go_num, rfl, by omega, hw2, hA, hw, hE, hX⟩
          case measure => simp [intOf]; omega
        · have t2 : decide ((cat (dl.take (k + 1))).length ≤ nn) = false := by simpa using hle
          have hw2 := hide_ (show wh ≤ k + 1 ∧ (cat (dl.take wh)).length ≤ nn ∧ (wh < k + 1 → nn < (cat (dl.take (wh + 1))).length) from ⟨by omega, c2, fun h => by
            rcases Nat.lt_or_ge wh k with h2 | h2
            · exact c3 h2
            · rw [show wh = k from by omega]; omega⟩)
          clear hle hge hwi c1 c2 c3
          go_wp2_with ((first
            | (refine i_idx _ _ k rfl rfl (v := ve) rfl hEi rfl hlte.out ?_; intro ad had; rw [hget.out] at had)
            | fail) <;> (try simp only [Act.put, List.setIfInBounds_toArray, List.set_cons_zero, List.set_cons_succ]))
          go_roundw
          case rel => exact ⟨k + 1, wh, by go_num, rfl, rfl, by omega, hw2, hA, hw, hE, hX⟩
          case measure => simp [intOf]; omega
    have hlt : k < l.length := by omega
    have t1 : decide (k < l.length) = true := by simpa using hlt
    obtain ⟨r', hlk⟩ : ∃ r', l[k] = r' := ⟨_, rfl⟩
    have hrt : ∀ x ∈ r'.t, x < 256 := by
      have := recs_ok_of hl1 (p := fun d => ∀ x ∈ d.t, x < 256) (fun w row d h => h.2.t.1) l[k] (List.getElem_mem hlt)
      rwa [hlk] at this
    replace hlk := hide_ hlk
    clear hge
    by_cases hok : r'.Ok
    · have E1 := hide_ (show jErr r' = 0 from if_pos hok)
      have E2 := hide_ (show jB r' = r'.bs from if_pos hok)
      have hI2 := hide_ (show ∀ x ∈ dl ++ [r'], x.Ok ∧ ∀ y ∈ x.t, y < 256 from fun x hx => (List.mem_append.1 hx).elim (hI.out x) (fun h => by rw [List.mem_singleton] at h; subst h; exact ⟨hok, hrt⟩))
      have hcat := hide_ (cat_snoc dl r').symm
      have hend := hide_ (endsL_snoc dl r')
      have hbd := hide_ (show ((u8s (cat dl)).length + (u8s r'.bs).length) * 1 ≤ 140737488355328 from by have := r'.bs_len2 hok; rw [u8s_length, u8s_length]; omega)
      have hbe := hide_ (show ((i64s (endsL dl)).length + (i64s [(((cat (dl ++ [r'])).length : Nat) : Int)]).length) * 8 ≤ 140737488355328 from by rw [i64s_length, i64s_length, endsL_len]; simp; omega)
      clear hok hI hrt hcl hdis
      go_wp2_with ((first
        | (refine w_ridx0 Try.elRec _ _ k RecR.stays rfl rfl rfl rfl hl1 hX hlt ?_; rintro p row hrow hrl hr; rw [hlk.out] at hr; have hr1 := hr.one.2)
        | (refine w_pload Try.stRec _ rfl rfl rfl (hrow.ext hX) hrl ?_)
        | (refine w_alloc (o := ⟨some 11, _, _, _, _, _⟩) Try.stRec rfl rfl ?_; intro g8 w4 hg hx4 f8; have n8 : ¬ va.ownBlock = some g8 := (fun h => by have := hA.lt h; omega))
        | (refine w_astore Try.stRec (us := row) _ _ rfl rfl rfl rfl rfl f8 rfl hrl hr1 ?_; intro w5 hm5 f8'; replace f8 := f8'; have hx := hm5.after hx4 (fun i e => e ▸ hg); replace hA := hA.ext hx; replace hE := hE.ext hx; replace hw := hw.ext hx; replace hX := hX.trans hx; clear f8' hm5 hx4 hg hx hrow)
        | (go_at_call 11; refine (JBytes_any (RecR.stays _ _ _ _ hr hX)).mono ?_; rintro e w6 ⟨v12, rfl, o9, hx⟩; rw [E1.out]; rw [E2.out] at o9; have b9 := o9.byt; replace f8 := f8.ext hx; replace hA := hA.ext hx; replace hE := hE.ext hx; replace hw := hw.ext hx; replace hX := hX.trans hx; clear hx o9)
        | (refine w_rapp Try.elB _ _ rfl rfl rfl rfl hA.own b9 (u8s_one _) hbd.out ?_; intro va' w7 hm7 hr7 _; have hA2 := hA.app hX.size hr7; rw [← u8s_append, hcat.out] at hA2; have d1 := Row.off hr7 (F := fun k => vw.ownBlock = some k) (fun k hk => hw.lt hk) (fun k hk h => dWA k h hk); have d2 := Row.off hr7 (F := fun k => ve.ownBlock = some k) (fun k hk => hE.lt hk) (fun k hk h => dEA k h hk); replace hw := hw.mod hm7 dWA; replace hE := hE.mod hm7 dEA; replace dWA : ∀ k, vw.ownBlock = some k → ¬ va'.ownBlock = some k := (fun k h hk => d1 k hk h); replace dEA : ∀ k, ve.ownBlock = some k → ¬ va'.ownBlock = some k := (fun k h hk => d2 k hk h); replace f8 := f8.mod hm7 n8; replace hX := hm7.after hX hA.new; replace hA := hA2; clear hm7 hr7 hA2 d1 d2 b9 n8)
        | (refine w_nnew Try.elRecN [row] rfl rfl rfl (by intro y hy; simp at hy; subst hy; exact hrl) rfl (by omega) ?_; intro vl w8 B hB1 hB2 hx hn5; have hl5 := hn5.slS; replace hA := hA.ext hx; replace hE := hE.ext hx; replace hw := hw.ext hx; replace hX := hX.trans hx; clear hn5 hB1 hB2 hx f8)
        | (obtain ⟨⟨rows, h1, h2, h3⟩, h4⟩ := hw; refine w_napp Try.elRecN _ _ rfl rfl rfl rfl h1 hl5 (by simp) (by intro y hy; simp at hy; subst hy; exact hr1) (by simp; omega) ?_; intro vw' w9 hm9 hn9; have hw := OwnW.app hX.size h2 h3 h4 hr hn9; have hA2 := hA.mod hm9 (fun k hk e => dWA k e hk); have hE2 := hE.mod hm9 dEW; have d2 := RowN.off hn9 (F := fun k => ve.ownBlock = some k) (fun k hk => hE.lt hk) (fun k hk h => dEW k h hk); replace dWA := RowN.off hn9 (F := fun k => va'.ownBlock = some k) (fun k hk => hA.lt hk) dWA; replace dEW : ∀ k, ve.ownBlock = some k → ¬ vw'.ownBlock = some k := (fun k h hk => d2 k hk h); replace hA := hA2; replace hE := hE2; replace hX := hm9.after hX h4; clear h1 h2 h3 h4 hl5 hm9 hn9 hA2 hE2 d2)
        | (refine b_len _ rfl rfl (v := va') rfl (show Byt _ va' (cat (dl ++ [r'])) from hA.sl) ?_)
        | (refine w_new Try.elI (i64s [((cat (dl ++ [r'])).length : Nat)]) rfl rfl rfl (i64s_cells _) rfl (by omega) ?_; intro vi w10 hx oi; have bi := Sl.of_own oi; replace hA := hA.ext hx; replace hE := hE.ext hx; replace hw := hw.ext hx; replace hX := hX.trans hx; clear oi hx)
        | (refine w_rapp Try.elI _ _ rfl rfl rfl rfl hE.own bi (i64s_one _) hbe.out ?_; intro ve' w11 hm11 hr11 _; have hE2 := hE.app hX.size hr11; rw [← i64s_append, hend.out] at hE2; have d1 := Row.off hr11 (F := fun k => va'.ownBlock = some k) (fun k hk => hA.lt hk) dEA; have d2 := Row.off hr11 (F := fun k => vw'.ownBlock = some k) (fun k hk => hw.lt hk) dEW; replace hA := hA.mod hm11 (fun k hk e => dEA k e hk); replace hw := hw.mod hm11 (fun k hk e => dEW k e hk); replace dEA := d1; replace dEW := d2; replace hX := hm11.after hX hE.new; replace hE := hE2; clear hm11 hr11 hE2 d1 d2 bi)
        | (refine w_aload Try.stRec _ rfl rfl rfl f8 hrl ?_)
        | fail) <;> (try simp only [Act.put, List.setIfInBounds_toArray, List.set_cons_zero, List.set_cons_succ]))
      go_roundw
      case rel => exact ⟨k + 1, dl ++ [r'], by go_num, by omega, by simp; omega, hA, hw, hE, hide_ ⟨dWA, dEA, dEW⟩, hX, hI2⟩
      case measure => simp [intOf]; omega
    · have E1 := hide_ (show jErr r' = 51 from if_neg hok)
      have E2 := hide_ (show jB r' = [] from if_neg hok)
      clear hok hrt hcl
      go_wp2_with ((first
        | (refine w_ridx0 Try.elRec _ _ k RecR.stays rfl rfl rfl rfl hl1 hX hlt ?_; rintro p row hrow hrl hr; rw [hlk.out] at hr; have hr1 := hr.one.2)
        | (refine w_pload Try.stRec _ rfl rfl rfl (hrow.ext hX) hrl ?_)
        | (refine w_alloc (o := ⟨some 11, _, _, _, _, _⟩) Try.stRec rfl rfl ?_; intro g8 w4 hg hx4 f8; have n8 : ¬ va.ownBlock = some g8 := (fun h => by have := hA.lt h; omega))
        | (refine w_astore Try.stRec (us := row) _ _ rfl rfl rfl rfl rfl f8 rfl hrl hr1 ?_; intro w5 hm5 f8'; replace f8 := f8'; have hx := hm5.after hx4 (fun i e => e ▸ hg); replace hA := hA.ext hx; replace hE := hE.ext hx; replace hw := hw.ext hx; replace hX := hX.trans hx; clear f8' hm5 hx4 hg hx hrow)
        | (go_at_call 11; refine (JBytes_any (RecR.stays _ _ _ _ hr hX)).mono ?_; rintro e w6 ⟨v12, rfl, o9, hx⟩; rw [E1.out]; rw [E2.out] at o9; have b9 := o9.byt; replace f8 := f8.ext hx; replace hA := hA.ext hx; replace hE := hE.ext hx; replace hw := hw.ext hx; replace hX := hX.trans hx; clear hx o9)
        | (refine w_aload Try.stRec _ rfl rfl rfl f8 hrl ?_)
        | fail) <;> (try simp only [Act.put, List.setIfInBounds_toArray, List.set_cons_zero, List.set_cons_succ]))
      go_roundw
      case rel => exact ⟨k + 1, dl, by go_num, by omega, by omega, hA, hw, hE, hdis, hX, hI⟩
      case measure => simp [intOf]; omega

set_option maxRecDepth 100000 in
theorem journalCuts_lifted (os : Os) (started : os.Started) (H : Type) (enc : TypeId × Value → H) :
    ReturnsInHanded {} Try.checked os 8 .any (Rows.journalCutsSpec.pre6 enc Try.prog Try.f8 Rows.journalCutsRow.domain false) (Rows.journalCutsSpec.post enc Try.prog Try.f8 false true false false) := by
  refine law_lifted (s := Rows.journalCutsSpec) (conds := Rows.journalCutsRow.domain) Try.func8 (by kernel_rfl) rfl (fun H ds h => by
      rw [show Try.f8.params.size = 3 from rfl] at h
      match ds, h with
      | [d0, d1, d2], _ => rfl) rfl rfl (by decide +kernel) os started H enc
    (ChangeSpec.witness6 (enc := enc) (C := Try.checked) false ⟨#[], #[.slice none 0 0, .int .i64 0, .agg #[.int .i64 0, .int .i64 0, .int .i64 0, .int .i64 0, .slice none 0 0]], []⟩ 8 (by kernel_rfl) (by kernel_rfl) (by kernel_rfl) (by kernel_rfl)) ?_
  intro W base args ds p hval hA hsz _
  have hp : Try.f8.params.toList = [22, 3, 28] := rfl
  rw [hp] at hA hsz
  obtain ⟨v0, v1, v2, d0, d1, d2, p0, p1, p2, rfl, rfl, rfl, h0, h1, h2⟩ := trodAll_three hA
  obtain ⟨l0, a0⟩ := arg_Recs hsz (j := 0) rfl rfl (hval 0 22 v0 rfl rfl) h0
  obtain ⟨a1, rfl, b1, c1⟩ := arg_int (hval 1 3 v1 rfl rfl) h1
  obtain ⟨row2, r2, rfl, n2, a2⟩ := arg_Rec hsz (j := 2) rfl rfl (hval 2 28 v2 rfl rfl) h2
  exact journalCuts_law v0 l0 a1 row2 r2 W a0 a2 ⟨b1, c1⟩

theorem journalCuts_holds : Rows.JournalCutsSaid :=
  OpenClaim.holds_of_wide 8 Try.f8 rfl rfl rfl rfl rfl rfl rfl ⟨rfl, rfl, rfl, rfl, rfl⟩ rfl rfl rfl rfl rfl (by kernel_rfl) Try.func8 (by kernel_rfl)
    (of_decide_eq_true (by kernel_rfl)) (by unfold Func.isWrapper; first | (rw [if_pos (by decide +kernel)]; kernel_rfl) | (rw [if_neg (by decide +kernel)]; exact ⟨rfl, rfl⟩))
    (fun os started H enc _ => journalCuts_lifted os started H enc)
#print axioms journalCuts_holds

end Go.Proofs.Ytfhecifgpjbeiaa
