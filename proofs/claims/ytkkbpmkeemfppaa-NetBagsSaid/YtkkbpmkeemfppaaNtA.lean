/- One thing sent into a channel, one received, each by a select that doesn't wait: what becomes of the channel. -/
import Derived.Test.YtkkbpmkeemfppaaFC
import Derived.Conc.LoneSelect
namespace Go.Proofs.Ytkkbpmkeemfppaa
open Go.RowKit Go.Conc

set_option maxRecDepth 100000 in
set_option maxHeartbeats 3200000 in
theorem send_room {w : World} {p c cap s r : Nat} {v x : Value} {buf : Array Value} {tm : Bool} (hf : Fs w p [.chan (some c), v]) (hb : w.heap[c]? = some (.chan cap buf false s r tm)) (hr : buf.size < cap) :
    Calls Try.prog 30 #[.pointer (some ⟨p, 0, none⟩), x] w fun e w' => e = .returned (.bool true) ∧ w' = w.setChan c cap (buf.push x) false (s + 1) r tm := by
  have hc : w.cell? ⟨p, 0, none⟩ = some (.chan (some c)) := hf.cell rfl
  refine calls_of_loneTo fun cs => ?_
  have e : Frame.enter Try.prog 30 #[.pointer (some ⟨p, 0, none⟩), x] .normal = (base 30).at ⟨#[.pointer (some ⟨p, 0, none⟩), x, undef, undef, undef, undef, undef, undef, undef, undef, undef, undef, undef], []⟩ [.code (Try.f30.body.getD .skip)] := by
    simp [Frame.enter, Frame.at, Try.func30, base, Try.f30]
  rw [e]
  refine LoneTo.goes (n := 40) ?_
  simp only [Try.f30, Option.getD_some]
  s_c stepG_seq
  s_reg
  s_op
  s_c stepG_region_end
  s_c stepG_seq
  s_c stepG_seq
  s_reg
  s_op
  s_op
  s_op
  s_op
  s_c stepG_region_end
  s_reg
  s_op
  s_c stepG_region_end
  s_c stepG_seq
  s_reg
  s_stop
  refine LoneTo.step (step_lone_select_send_room (c := c) (v := x) (z' := .pointer none) (cap := cap) (buf := buf) (s := s) (r := r) (tm := tm) (stepG_comm (cases := #[scase c x (.pointer none)]) (blocking := false) (shape := .select) (w' := w) rfl rfl (by decide) (by simp [go_sem, execOp, scase, Act.eval])) hb hr) ?_
  rw [Frame.finish_at]
  walk_nrm
  refine LoneTo.goes (n := 40) ?_
  s_op
  s_op
  s_c stepG_region_end
  s_c stepG_block
  s_cond true
  s_c stepG_seq
  s_reg
  s_op
  s_c stepG_region_end
  s_c stepG_ret'
  s_stop
  refine LoneTo.done ⟨.returned (.bool true), _, rfl, ⟨rfl, rfl⟩, rfl, rfl, rfl, rfl, _, Try.func30, by simp [results, Try.f30, Frame.at]⟩
set_option maxRecDepth 100000 in
set_option maxHeartbeats 3200000 in
theorem send_full {w : World} {p c cap s r : Nat} {v x : Value} {buf : Array Value} {tm : Bool} (hf : Fs w p [.chan (some c), v]) (hb : w.heap[c]? = some (.chan cap buf false s r tm)) (hr : cap ≤ buf.size) :
    Calls Try.prog 30 #[.pointer (some ⟨p, 0, none⟩), x] w fun e w' => e = .returned (.bool false) ∧ w' = w := by
  have hc : w.cell? ⟨p, 0, none⟩ = some (.chan (some c)) := hf.cell rfl
  refine calls_of_loneTo fun cs => ?_
  have e : Frame.enter Try.prog 30 #[.pointer (some ⟨p, 0, none⟩), x] .normal = (base 30).at ⟨#[.pointer (some ⟨p, 0, none⟩), x, undef, undef, undef, undef, undef, undef, undef, undef, undef, undef, undef], []⟩ [.code (Try.f30.body.getD .skip)] := by
    simp [Frame.enter, Frame.at, Try.func30, base, Try.f30]
  rw [e]
  refine LoneTo.goes (n := 40) ?_
  simp only [Try.f30, Option.getD_some]
  s_c stepG_seq
  s_reg
  s_op
  s_c stepG_region_end
  s_c stepG_seq
  s_c stepG_seq
  s_reg
  s_op
  s_op
  s_op
  s_op
  s_c stepG_region_end
  s_reg
  s_op
  s_c stepG_region_end
  s_c stepG_seq
  s_reg
  s_stop
  refine LoneTo.step (step_lone_select_send_full (c := c) (v := x) (z' := .pointer none) (cap := cap) (buf := buf) (s := s) (r := r) (tm := tm) (stepG_comm (cases := #[scase c x (.pointer none)]) (blocking := false) (shape := .select) (w' := w) rfl rfl (by decide) (by simp [go_sem, execOp, scase, Act.eval])) hb hr) ?_
  rw [Frame.finish_at]
  walk_nrm
  refine LoneTo.goes (n := 40) ?_
  s_op
  s_op
  s_c stepG_region_end
  s_c stepG_block
  s_cond false
  s_c stepG_seq
  s_reg
  s_op
  s_c stepG_region_end
  s_c stepG_ret'
  s_stop
  refine LoneTo.done ⟨.returned (.bool false), _, rfl, ⟨rfl, rfl⟩, rfl, rfl, rfl, rfl, _, Try.func30, by simp [results, Try.f30, Frame.at]⟩
set_option maxRecDepth 100000 in
set_option maxHeartbeats 3200000 in
theorem recv_some {w : World} {p c cap s r : Nat} {v u : Value} {buf : Array Value} {tm : Bool} (hf : Fs w p [.chan (some c), v]) (hb : w.heap[c]? = some (.chan cap buf false s r tm)) (hu : buf[0]? = some u) :
    Calls Try.prog 34 #[.pointer (some ⟨p, 0, none⟩)] w fun e w' => e = .returned (.tuple #[u, .bool true]) ∧ w' = w.setChan c cap (buf.extract 1 buf.size) false s (r + 1) tm := by
  have hc : w.cell? ⟨p, 0, none⟩ = some (.chan (some c)) := hf.cell rfl
  have hz : buf.getD 0 undef = u := by simp [hu]
  have hr : 0 < buf.size := (Array.getElem?_eq_some_iff.1 hu).1
  refine calls_of_loneTo fun cs => ?_
  have e : Frame.enter Try.prog 34 #[.pointer (some ⟨p, 0, none⟩)] .normal = (base 34).at ⟨#[.pointer (some ⟨p, 0, none⟩), undef, undef, undef, undef, undef, undef, undef, undef, undef, undef, undef, undef, undef], []⟩ [.code (Try.f34.body.getD .skip)] := by
    simp [Frame.enter, Frame.at, Try.func34, base, Try.f34]
  rw [e]
  refine LoneTo.goes (n := 40) ?_
  simp only [Try.f34, Option.getD_some]
  s_c stepG_seq
  s_reg
  s_op
  s_op
  s_c stepG_region_end
  s_c stepG_seq
  s_reg
  s_op
  s_op
  s_op
  s_op
  s_c stepG_region_end
  s_c stepG_seq
  s_reg
  s_stop
  refine LoneTo.step (step_lone_select_recv_buf (c := c) (z := .pointer none) (cap := cap) (buf := buf) (closed := false) (s := s) (r := r) (tm := tm) (stepG_comm (cases := #[rcase c (.pointer none)]) (blocking := false) (shape := .select) (w' := w) rfl rfl (by decide) (by simp [go_sem, execOp, rcase, Act.eval])) hb hr) ?_
  rw [Frame.finish_at, hz]
  walk_nrm
  refine LoneTo.goes (n := 40) ?_
  s_op
  s_op
  s_c stepG_region_end
  s_c stepG_block
  s_cond true
  s_c stepG_seq
  s_reg
  s_op
  s_op
  s_c stepG_region_end
  s_c stepG_seq
  s_reg
  s_op
  s_op
  s_op
  s_c stepG_region_end
  s_c stepG_ret'
  s_stop
  refine LoneTo.done ⟨.returned (.tuple #[u, .bool true]), _, rfl, ⟨rfl, rfl⟩, rfl, rfl, rfl, rfl, _, Try.func34, by simp [results, Try.f34, Frame.at]⟩
set_option maxRecDepth 100000 in
set_option maxHeartbeats 3200000 in
theorem recv_none {w : World} {p c cap s r : Nat} {v : Value} {tm : Bool} (hf : Fs w p [.chan (some c), v]) (hb : w.heap[c]? = some (.chan cap #[] false s r tm)) :
    Calls Try.prog 34 #[.pointer (some ⟨p, 0, none⟩)] w fun e w' => e = .returned (.tuple #[.pointer none, .bool false]) ∧ w' = w := by
  have hc : w.cell? ⟨p, 0, none⟩ = some (.chan (some c)) := hf.cell rfl
  refine calls_of_loneTo fun cs => ?_
  have e : Frame.enter Try.prog 34 #[.pointer (some ⟨p, 0, none⟩)] .normal = (base 34).at ⟨#[.pointer (some ⟨p, 0, none⟩), undef, undef, undef, undef, undef, undef, undef, undef, undef, undef, undef, undef, undef], []⟩ [.code (Try.f34.body.getD .skip)] := by
    simp [Frame.enter, Frame.at, Try.func34, base, Try.f34]
  rw [e]
  refine LoneTo.goes (n := 40) ?_
  simp only [Try.f34, Option.getD_some]
  s_c stepG_seq
  s_reg
  s_op
  s_op
  s_c stepG_region_end
  s_c stepG_seq
  s_reg
  s_op
  s_op
  s_op
  s_op
  s_c stepG_region_end
  s_c stepG_seq
  s_reg
  s_stop
  refine LoneTo.step (step_lone_select_default (c := c) (z := .pointer none) (cap := cap) (s := s) (r := r) (tm := tm) (stepG_comm (cases := #[rcase c (.pointer none)]) (blocking := false) (shape := .select) (w' := w) rfl rfl (by decide) (by simp [go_sem, execOp, rcase, Act.eval])) hb) ?_
  rw [Frame.finish_at]
  walk_nrm
  refine LoneTo.goes (n := 40) ?_
  s_op
  s_op
  s_c stepG_region_end
  s_c stepG_block
  s_cond false
  s_c stepG_seq
  s_reg
  s_op
  s_op
  s_c stepG_region_end
  s_c stepG_ret'
  s_stop
  refine LoneTo.done ⟨.returned (.tuple #[.pointer none, .bool false]), _, rfl, ⟨rfl, rfl⟩, rfl, rfl, rfl, rfl, _, Try.func34, by simp [results, Try.f34, Frame.at]⟩
set_option maxRecDepth 100000 in
set_option maxHeartbeats 3200000 in
theorem recv_noneS {w : World} {p c cap s r : Nat} {v : Value} {tm : Bool} (hf : Fs w p [.chan (some c), v]) (hb : w.heap[c]? = some (.chan cap #[] false s r tm)) :
    Calls Try.prog 33 #[.pointer (some ⟨p, 0, none⟩)] w fun e w' => e = .returned (.tuple #[.pointer none, .bool false]) ∧ w' = w := by
  have hc : w.cell? ⟨p, 0, none⟩ = some (.chan (some c)) := hf.cell rfl
  refine calls_of_loneTo fun cs => ?_
  have e : Frame.enter Try.prog 33 #[.pointer (some ⟨p, 0, none⟩)] .normal = (base 33).at ⟨#[.pointer (some ⟨p, 0, none⟩), undef, undef, undef, undef, undef, undef, undef, undef, undef, undef, undef, undef, undef], []⟩ [.code (Try.f33.body.getD .skip)] := by
    simp [Frame.enter, Frame.at, Try.func33, base, Try.f33]
  rw [e]
  refine LoneTo.goes (n := 40) ?_
  simp only [Try.f33, Option.getD_some]
  s_c stepG_seq
  s_reg
  s_op
  s_op
  s_c stepG_region_end
  s_c stepG_seq
  s_reg
  s_op
  s_op
  s_op
  s_op
  s_c stepG_region_end
  s_c stepG_seq
  s_reg
  s_stop
  refine LoneTo.step (step_lone_select_default (c := c) (z := .pointer none) (cap := cap) (s := s) (r := r) (tm := tm) (stepG_comm (cases := #[rcase c (.pointer none)]) (blocking := false) (shape := .select) (w' := w) rfl rfl (by decide) (by simp [go_sem, execOp, rcase, Act.eval])) hb) ?_
  rw [Frame.finish_at]
  walk_nrm
  refine LoneTo.goes (n := 40) ?_
  s_op
  s_op
  s_c stepG_region_end
  s_c stepG_block
  s_cond false
  s_c stepG_seq
  s_reg
  s_op
  s_op
  s_c stepG_region_end
  s_c stepG_ret'
  s_stop
  refine LoneTo.done ⟨.returned (.tuple #[.pointer none, .bool false]), _, rfl, ⟨rfl, rfl⟩, rfl, rfl, rfl, rfl, _, Try.func33, by simp [results, Try.f33, Frame.at]⟩
end Go.Proofs.Ytkkbpmkeemfppaa
