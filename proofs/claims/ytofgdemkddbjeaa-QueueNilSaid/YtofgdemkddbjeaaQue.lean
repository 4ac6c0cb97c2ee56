/- Package queue: a row of things over a channel. -/
import Derived.Test.YtofgdemkddbjeaaChn
import Derived.IntWalk
namespace Go.Proofs.Ytofgdemkddbjeaa
open Go.RowKit Go.Conc
set_option linter.unusedVariables false
set_option linter.unusedSimpArgs false
set_option maxRecDepth 100000

set_option maxHeartbeats 1000000 in
theorem pushI_room {w : World} {p c cap : Nat} {L : List Value} (x : Value) (h : Que w p c 57 cap L) (hr : L.length < cap) :
    Calls Try.prog 14 #[.pointer (some ⟨p, 0, none⟩), x] w fun e w' => e = .returned (.int .i64 0) ∧ Que w' p c 57 cap (L ++ [x]) ∧ Chg (fun k => k = c) w w' := by
  refine calls_of_loneTo fun cs => ?_
  have e : Frame.enter Try.prog 14 #[.pointer (some ⟨p, 0, none⟩), x] .normal = (base 14).at ⟨#[.pointer (some ⟨p, 0, none⟩), x, undef, undef, undef, undef, undef, undef, undef, undef, undef, undef, undef, undef, undef], []⟩ [.code (Try.f14.body.getD .skip)] := by
    simp [Frame.enter, Frame.at, Try.func14, base, Try.f14]
  rw [e]
  refine LoneTo.goes (n := 200) ?_
  simp only [Try.f14, Option.getD_some]
  have c0 := h.blk.cell 0
  obtain ⟨s, r, hc⟩ := h.ch
  repeat (first | s_c stepG_region_end | s_c stepG_seq | s_c stepG_skip | s_c stepG_block | s_c stepG_inBlock | s_cond true | s_cond false | s_c stepG_ret' | s_exit | s_reg | s_op)
  s_stop
  refine LoneTo.step (step_lone_select_send_room (c := c) (cap := cap) (buf := L.toArray) (s := s) (r := r) (tm := false) (v := x) (z' := .int .i64 0) (stepG_comm (cases := #[scase c x (.int .i64 0)]) (blocking := false) (shape := .select) (w' := w) rfl rfl (by decide) (by simp [go_sem, execOp, scase, Act.eval])) hc (by simpa using hr)) ?_
  rw [Frame.finish_at]
  walk_nrm
  refine LoneTo.goes (n := 200) ?_
  repeat (first | s_c stepG_region_end | s_c stepG_seq | s_c stepG_skip | s_c stepG_block | s_c stepG_inBlock | s_cond true | s_cond false | s_c stepG_ret' | s_exit | s_reg | s_op)
  s_stop
  refine LoneTo.done ⟨.returned (.int .i64 0), _, rfl, ⟨rfl, by simpa using h.set (L ++ [x]) (s + 1) r, (Chg.refl (fun k => k = c) w).setChan (.inr rfl) _ _ _ _ _ _⟩, rfl, rfl, rfl, rfl, _, Try.func14, by simp [results, Try.f14, Frame.at]⟩

set_option maxHeartbeats 1000000 in
theorem pushI_full {w : World} {p c cap : Nat} {L : List Value} (x : Value) (h : Que w p c 57 cap L) (hr : cap ≤ L.length) :
    Calls Try.prog 14 #[.pointer (some ⟨p, 0, none⟩), x] w fun e w' => e = .returned (.int .i64 6) ∧ w = w' := by
  refine calls_of_loneTo fun cs => ?_
  have e : Frame.enter Try.prog 14 #[.pointer (some ⟨p, 0, none⟩), x] .normal = (base 14).at ⟨#[.pointer (some ⟨p, 0, none⟩), x, undef, undef, undef, undef, undef, undef, undef, undef, undef, undef, undef, undef, undef], []⟩ [.code (Try.f14.body.getD .skip)] := by
    simp [Frame.enter, Frame.at, Try.func14, base, Try.f14]
  rw [e]
  refine LoneTo.goes (n := 200) ?_
  simp only [Try.f14, Option.getD_some]
  have c0 := h.blk.cell 0
  obtain ⟨s, r, hc⟩ := h.ch
  repeat (first | s_c stepG_region_end | s_c stepG_seq | s_c stepG_skip | s_c stepG_block | s_c stepG_inBlock | s_cond true | s_cond false | s_c stepG_ret' | s_exit | s_reg | s_op)
  s_stop
  refine LoneTo.step (step_lone_select_send_full (c := c) (cap := cap) (buf := L.toArray) (s := s) (r := r) (tm := false) (v := x) (z' := .int .i64 0) (stepG_comm (cases := #[scase c x (.int .i64 0)]) (blocking := false) (shape := .select) (w' := w) rfl rfl (by decide) (by simp [go_sem, execOp, scase, Act.eval])) hc (by simpa using hr)) ?_
  rw [Frame.finish_at]
  walk_nrm
  refine LoneTo.goes (n := 200) ?_
  repeat (first | s_c stepG_region_end | s_c stepG_seq | s_c stepG_skip | s_c stepG_block | s_c stepG_inBlock | s_cond true | s_cond false | s_c stepG_ret' | s_exit | s_reg | s_op)
  s_stop
  refine LoneTo.done ⟨.returned (.int .i64 6), _, rfl, ⟨rfl, rfl⟩, rfl, rfl, rfl, rfl, _, Try.func14, by simp [results, Try.f14, Frame.at]⟩

set_option maxHeartbeats 1000000 in
theorem pushI_nil {w : World} (x : Value) :
    Calls Try.prog 14 #[.pointer none, x] w fun e w' => e = .returned (.int .i64 1) ∧ w = w' := by
  go_enter Try.func14, Try.ntmps14
  go_wp2
  go_ret
  exact ⟨rfl, rfl⟩

set_option maxHeartbeats 1000000 in
theorem popI_some {w : World} {p c cap : Nat} {L : List Value} {x : Value} (h : Que w p c 57 cap (x :: L)) :
    Calls Try.prog 10 #[.pointer (some ⟨p, 0, none⟩)] w fun e w' => e = .returned (.tuple #[x, .int .i64 0]) ∧ Que w' p c 57 cap L ∧ Chg (fun k => k = c) w w' := by
  refine calls_of_loneTo fun cs => ?_
  have e : Frame.enter Try.prog 10 #[.pointer (some ⟨p, 0, none⟩)] .normal = (base 10).at ⟨#[.pointer (some ⟨p, 0, none⟩), undef, undef, undef, undef, undef, undef, undef, undef, undef, undef, undef, undef, undef, undef, undef, undef, undef, undef], []⟩ [.code (Try.f10.body.getD .skip)] := by
    simp [Frame.enter, Frame.at, Try.func10, base, Try.f10]
  rw [e]
  refine LoneTo.goes (n := 200) ?_
  simp only [Try.f10, Option.getD_some]
  have c0 := h.blk.cell 0
  obtain ⟨s, r, hc⟩ := h.ch
  repeat (first | s_c stepG_region_end | s_c stepG_seq | s_c stepG_skip | s_c stepG_block | s_c stepG_inBlock | s_cond true | s_cond false | s_c stepG_ret' | s_exit | s_reg | s_op)
  s_stop
  refine LoneTo.step (step_lone_select_recv_buf (c := c) (cap := cap) (buf := (x :: L).toArray) (closed := false) (s := s) (r := r) (tm := false) (z := .int .i64 0) (stepG_comm (cases := #[rcase c (.int .i64 0)]) (blocking := false) (shape := .select) (w' := w) rfl rfl (by decide) (by simp [go_sem, execOp, rcase, Act.eval])) hc (by simp)) ?_
  rw [Frame.finish_at]
  walk_nrm
  have hx : (x :: L).toArray.getD 0 undef = x := by simp
  have hL : (x :: L).toArray.extract 1 (x :: L).toArray.size = L.toArray := by simp
  first | rw [hx, hL] | rw [hL] | rw [hx] | skip
  refine LoneTo.goes (n := 200) ?_
  repeat (first | s_c stepG_region_end | s_c stepG_seq | s_c stepG_skip | s_c stepG_block | s_c stepG_inBlock | s_cond true | s_cond false | s_c stepG_ret' | s_exit | s_reg | s_op)
  s_stop
  refine LoneTo.done ⟨.returned (.tuple #[x, .int .i64 0]), _, rfl, ⟨rfl, h.set L s (r + 1), (Chg.refl (fun k => k = c) w).setChan (.inr rfl) _ _ _ _ _ _⟩, rfl, rfl, rfl, rfl, _, Try.func10, by simp [results, Try.f10, Frame.at]⟩

set_option maxHeartbeats 1000000 in
theorem popI_none {w : World} {p c cap : Nat} (h : Que w p c 57 cap []) :
    Calls Try.prog 10 #[.pointer (some ⟨p, 0, none⟩)] w fun e w' => e = .returned (.tuple #[.int .i64 0, .int .i64 7]) ∧ w = w' := by
  refine calls_of_loneTo fun cs => ?_
  have e : Frame.enter Try.prog 10 #[.pointer (some ⟨p, 0, none⟩)] .normal = (base 10).at ⟨#[.pointer (some ⟨p, 0, none⟩), undef, undef, undef, undef, undef, undef, undef, undef, undef, undef, undef, undef, undef, undef, undef, undef, undef, undef], []⟩ [.code (Try.f10.body.getD .skip)] := by
    simp [Frame.enter, Frame.at, Try.func10, base, Try.f10]
  rw [e]
  refine LoneTo.goes (n := 200) ?_
  simp only [Try.f10, Option.getD_some]
  have c0 := h.blk.cell 0
  obtain ⟨s, r, hc⟩ := h.ch
  repeat (first | s_c stepG_region_end | s_c stepG_seq | s_c stepG_skip | s_c stepG_block | s_c stepG_inBlock | s_cond true | s_cond false | s_c stepG_ret' | s_exit | s_reg | s_op)
  s_stop
  refine LoneTo.step (step_lone_select_default (c := c) (cap := cap) (s := s) (r := r) (tm := false) (z := .int .i64 0) (stepG_comm (cases := #[rcase c (.int .i64 0)]) (blocking := false) (shape := .select) (w' := w) rfl rfl (by decide) (by simp [go_sem, execOp, rcase, Act.eval])) hc) ?_
  rw [Frame.finish_at]
  walk_nrm
  refine LoneTo.goes (n := 200) ?_
  repeat (first | s_c stepG_region_end | s_c stepG_seq | s_c stepG_skip | s_c stepG_block | s_c stepG_inBlock | s_cond true | s_cond false | s_c stepG_ret' | s_exit | s_reg | s_op)
  s_stop
  refine LoneTo.done ⟨.returned (.tuple #[.int .i64 0, .int .i64 7]), _, rfl, ⟨rfl, rfl⟩, rfl, rfl, rfl, rfl, _, Try.func10, by simp [results, Try.f10, Frame.at]⟩

set_option maxHeartbeats 1000000 in
theorem popI_nil {w : World} :
    Calls Try.prog 10 #[.pointer none] w fun e w' => e = .returned (.tuple #[.int .i64 0, .int .i64 1]) ∧ w = w' := by
  go_enter Try.func10, Try.ntmps10
  go_wp2
  exact bodyPost_ret (v := .tuple #[.int .i64 0, .int .i64 1]) (by simp [results, Try.results10, go_sem]) rfl ⟨rfl, rfl⟩

set_option maxHeartbeats 1000000 in
theorem lenI_any {w : World} {p c cap : Nat} {L : List Value} (h : Que w p c 57 cap L) :
    Calls Try.prog 17 #[.pointer (some ⟨p, 0, none⟩)] w fun e w' => e = .returned (.int .i64 L.length) ∧ w = w' := by
  have c0 := h.blk.cell 0
  obtain ⟨s, r, hc⟩ := h.ch
  have hlen := fun ty => run_len_chan (P := Try.prog) 55 ty Try.underlying55 hc
  go_enter Try.func17, Try.ntmps17
  go_wp2
  go_ret
  exact ⟨by simp, rfl⟩
theorem lenI_nil {w : World} :
    Calls Try.prog 17 #[.pointer none] w fun e w' => e = .returned (.int .i64 0) ∧ w = w' := by
  go_enter Try.func17, Try.ntmps17
  go_wp2
  go_ret
  exact ⟨rfl, rfl⟩

set_option maxHeartbeats 1000000 in
theorem roomI_any {w : World} {p c cap : Nat} {L : List Value} (h : Que w p c 57 cap L) (hr : L.length ≤ cap) (hc : cap ≤ 1024) :
    Calls Try.prog 18 #[.pointer (some ⟨p, 0, none⟩)] w fun e w' => e = .returned (.int .i64 (cap - L.length : Nat)) ∧ w.drew = w' := by
  have c0 := h.blk.cell 0
  obtain ⟨s, r, hc⟩ := h.ch
  have hlen := fun ty => run_len_chan (P := Try.prog) (w := w.drew) 55 ty Try.underlying55 hc
  have hcap := fun ty => run_cap_chan (P := Try.prog) (w := w.drew) 55 ty Try.underlying55 hc
  have hwr : IntKind.wrap .i64 ((cap : Int) - L.length) = ((cap - L.length : Nat) : Int) := by
    rw [Go.IntWalk.i64_in _ (by omega)]
    omega
  go_enter Try.func18, Try.ntmps18
  go_wp2
  go_region
  go_wp2
  go_ret
  exact ⟨by simp, rfl⟩
theorem roomI_nil {w : World} :
    Calls Try.prog 18 #[.pointer none] w fun e w' => e = .returned (.int .i64 0) ∧ w = w' := by
  go_enter Try.func18, Try.ntmps18
  go_wp2
  go_ret
  exact ⟨rfl, rfl⟩

set_option maxHeartbeats 1000000 in
theorem pushS_room {w : World} {p c cap : Nat} {L : List Value} (x : Value) (h : Que w p c 60 cap L) (hr : L.length < cap) :
    Calls Try.prog 20 #[.pointer (some ⟨p, 0, none⟩), x] w fun e w' => e = .returned (.int .i64 0) ∧ Que w' p c 60 cap (L ++ [x]) ∧ Chg (fun k => k = c) w w' := by
  refine calls_of_loneTo fun cs => ?_
  have e : Frame.enter Try.prog 20 #[.pointer (some ⟨p, 0, none⟩), x] .normal = (base 20).at ⟨#[.pointer (some ⟨p, 0, none⟩), x, undef, undef, undef, undef, undef, undef, undef, undef, undef, undef, undef, undef, undef], []⟩ [.code (Try.f20.body.getD .skip)] := by
    simp [Frame.enter, Frame.at, Try.func20, base, Try.f20]
  rw [e]
  refine LoneTo.goes (n := 200) ?_
  simp only [Try.f20, Option.getD_some]
  have c0 := h.blk.cell 0
  obtain ⟨s, r, hc⟩ := h.ch
  repeat (first | s_c stepG_region_end | s_c stepG_seq | s_c stepG_skip | s_c stepG_block | s_c stepG_inBlock | s_cond true | s_cond false | s_c stepG_ret' | s_exit | s_reg | s_op)
  s_stop
  refine LoneTo.step (step_lone_select_send_room (c := c) (cap := cap) (buf := L.toArray) (s := s) (r := r) (tm := false) (v := x) (z' := .string ⟨#[]⟩) (stepG_comm (cases := #[scase c x (.string ⟨#[]⟩)]) (blocking := false) (shape := .select) (w' := w) rfl rfl (by decide) (by simp [go_sem, execOp, scase, Act.eval])) hc (by simpa using hr)) ?_
  rw [Frame.finish_at]
  walk_nrm
  refine LoneTo.goes (n := 200) ?_
  repeat (first | s_c stepG_region_end | s_c stepG_seq | s_c stepG_skip | s_c stepG_block | s_c stepG_inBlock | s_cond true | s_cond false | s_c stepG_ret' | s_exit | s_reg | s_op)
  s_stop
  refine LoneTo.done ⟨.returned (.int .i64 0), _, rfl, ⟨rfl, by simpa using h.set (L ++ [x]) (s + 1) r, (Chg.refl (fun k => k = c) w).setChan (.inr rfl) _ _ _ _ _ _⟩, rfl, rfl, rfl, rfl, _, Try.func20, by simp [results, Try.f20, Frame.at]⟩

set_option maxHeartbeats 1000000 in
theorem pushS_full {w : World} {p c cap : Nat} {L : List Value} (x : Value) (h : Que w p c 60 cap L) (hr : cap ≤ L.length) :
    Calls Try.prog 20 #[.pointer (some ⟨p, 0, none⟩), x] w fun e w' => e = .returned (.int .i64 6) ∧ w = w' := by
  refine calls_of_loneTo fun cs => ?_
  have e : Frame.enter Try.prog 20 #[.pointer (some ⟨p, 0, none⟩), x] .normal = (base 20).at ⟨#[.pointer (some ⟨p, 0, none⟩), x, undef, undef, undef, undef, undef, undef, undef, undef, undef, undef, undef, undef, undef], []⟩ [.code (Try.f20.body.getD .skip)] := by
    simp [Frame.enter, Frame.at, Try.func20, base, Try.f20]
  rw [e]
  refine LoneTo.goes (n := 200) ?_
  simp only [Try.f20, Option.getD_some]
  have c0 := h.blk.cell 0
  obtain ⟨s, r, hc⟩ := h.ch
  repeat (first | s_c stepG_region_end | s_c stepG_seq | s_c stepG_skip | s_c stepG_block | s_c stepG_inBlock | s_cond true | s_cond false | s_c stepG_ret' | s_exit | s_reg | s_op)
  s_stop
  refine LoneTo.step (step_lone_select_send_full (c := c) (cap := cap) (buf := L.toArray) (s := s) (r := r) (tm := false) (v := x) (z' := .string ⟨#[]⟩) (stepG_comm (cases := #[scase c x (.string ⟨#[]⟩)]) (blocking := false) (shape := .select) (w' := w) rfl rfl (by decide) (by simp [go_sem, execOp, scase, Act.eval])) hc (by simpa using hr)) ?_
  rw [Frame.finish_at]
  walk_nrm
  refine LoneTo.goes (n := 200) ?_
  repeat (first | s_c stepG_region_end | s_c stepG_seq | s_c stepG_skip | s_c stepG_block | s_c stepG_inBlock | s_cond true | s_cond false | s_c stepG_ret' | s_exit | s_reg | s_op)
  s_stop
  refine LoneTo.done ⟨.returned (.int .i64 6), _, rfl, ⟨rfl, rfl⟩, rfl, rfl, rfl, rfl, _, Try.func20, by simp [results, Try.f20, Frame.at]⟩

set_option maxHeartbeats 1000000 in
theorem pushS_nil {w : World} (x : Value) :
    Calls Try.prog 20 #[.pointer none, x] w fun e w' => e = .returned (.int .i64 1) ∧ w = w' := by
  go_enter Try.func20, Try.ntmps20
  go_wp2
  go_ret
  exact ⟨rfl, rfl⟩

set_option maxHeartbeats 1000000 in
theorem popS_some {w : World} {p c cap : Nat} {L : List Value} {x : Value} (h : Que w p c 60 cap (x :: L)) :
    Calls Try.prog 22 #[.pointer (some ⟨p, 0, none⟩)] w fun e w' => e = .returned (.tuple #[x, .int .i64 0]) ∧ Que w' p c 60 cap L ∧ Chg (fun k => k = c) w w' := by
  refine calls_of_loneTo fun cs => ?_
  have e : Frame.enter Try.prog 22 #[.pointer (some ⟨p, 0, none⟩)] .normal = (base 22).at ⟨#[.pointer (some ⟨p, 0, none⟩), undef, undef, undef, undef, undef, undef, undef, undef, undef, undef, undef, undef, undef, undef, undef, undef, undef, undef], []⟩ [.code (Try.f22.body.getD .skip)] := by
    simp [Frame.enter, Frame.at, Try.func22, base, Try.f22]
  rw [e]
  refine LoneTo.goes (n := 200) ?_
  simp only [Try.f22, Option.getD_some]
  have c0 := h.blk.cell 0
  obtain ⟨s, r, hc⟩ := h.ch
  repeat (first | s_c stepG_region_end | s_c stepG_seq | s_c stepG_skip | s_c stepG_block | s_c stepG_inBlock | s_cond true | s_cond false | s_c stepG_ret' | s_exit | s_reg | s_op)
  s_stop
  refine LoneTo.step (step_lone_select_recv_buf (c := c) (cap := cap) (buf := (x :: L).toArray) (closed := false) (s := s) (r := r) (tm := false) (z := .string ⟨#[]⟩) (stepG_comm (cases := #[rcase c (.string ⟨#[]⟩)]) (blocking := false) (shape := .select) (w' := w) rfl rfl (by decide) (by simp [go_sem, execOp, rcase, Act.eval])) hc (by simp)) ?_
  rw [Frame.finish_at]
  walk_nrm
  have hx : (x :: L).toArray.getD 0 undef = x := by simp
  have hL : (x :: L).toArray.extract 1 (x :: L).toArray.size = L.toArray := by simp
  first | rw [hx, hL] | rw [hL] | rw [hx] | skip
  refine LoneTo.goes (n := 200) ?_
  repeat (first | s_c stepG_region_end | s_c stepG_seq | s_c stepG_skip | s_c stepG_block | s_c stepG_inBlock | s_cond true | s_cond false | s_c stepG_ret' | s_exit | s_reg | s_op)
  s_stop
  refine LoneTo.done ⟨.returned (.tuple #[x, .int .i64 0]), _, rfl, ⟨rfl, h.set L s (r + 1), (Chg.refl (fun k => k = c) w).setChan (.inr rfl) _ _ _ _ _ _⟩, rfl, rfl, rfl, rfl, _, Try.func22, by simp [results, Try.f22, Frame.at]⟩

set_option maxHeartbeats 1000000 in
theorem popS_none {w : World} {p c cap : Nat} (h : Que w p c 60 cap []) :
    Calls Try.prog 22 #[.pointer (some ⟨p, 0, none⟩)] w fun e w' => e = .returned (.tuple #[.string ⟨#[]⟩, .int .i64 7]) ∧ w = w' := by
  refine calls_of_loneTo fun cs => ?_
  have e : Frame.enter Try.prog 22 #[.pointer (some ⟨p, 0, none⟩)] .normal = (base 22).at ⟨#[.pointer (some ⟨p, 0, none⟩), undef, undef, undef, undef, undef, undef, undef, undef, undef, undef, undef, undef, undef, undef, undef, undef, undef, undef], []⟩ [.code (Try.f22.body.getD .skip)] := by
    simp [Frame.enter, Frame.at, Try.func22, base, Try.f22]
  rw [e]
  refine LoneTo.goes (n := 200) ?_
  simp only [Try.f22, Option.getD_some]
  have c0 := h.blk.cell 0
  obtain ⟨s, r, hc⟩ := h.ch
  repeat (first | s_c stepG_region_end | s_c stepG_seq | s_c stepG_skip | s_c stepG_block | s_c stepG_inBlock | s_cond true | s_cond false | s_c stepG_ret' | s_exit | s_reg | s_op)
  s_stop
  refine LoneTo.step (step_lone_select_default (c := c) (cap := cap) (s := s) (r := r) (tm := false) (z := .string ⟨#[]⟩) (stepG_comm (cases := #[rcase c (.string ⟨#[]⟩)]) (blocking := false) (shape := .select) (w' := w) rfl rfl (by decide) (by simp [go_sem, execOp, rcase, Act.eval])) hc) ?_
  rw [Frame.finish_at]
  walk_nrm
  refine LoneTo.goes (n := 200) ?_
  repeat (first | s_c stepG_region_end | s_c stepG_seq | s_c stepG_skip | s_c stepG_block | s_c stepG_inBlock | s_cond true | s_cond false | s_c stepG_ret' | s_exit | s_reg | s_op)
  s_stop
  refine LoneTo.done ⟨.returned (.tuple #[.string ⟨#[]⟩, .int .i64 7]), _, rfl, ⟨rfl, rfl⟩, rfl, rfl, rfl, rfl, _, Try.func22, by simp [results, Try.f22, Frame.at]⟩

set_option maxHeartbeats 1000000 in
theorem popS_nil {w : World} :
    Calls Try.prog 22 #[.pointer none] w fun e w' => e = .returned (.tuple #[.string ⟨#[]⟩, .int .i64 1]) ∧ w = w' := by
  go_enter Try.func22, Try.ntmps22
  go_wp2
  exact bodyPost_ret (v := .tuple #[.string ⟨#[]⟩, .int .i64 1]) (by simp [results, Try.results22, go_sem]) rfl ⟨rfl, rfl⟩

set_option maxHeartbeats 1000000 in
theorem lenS_any {w : World} {p c cap : Nat} {L : List Value} (h : Que w p c 60 cap L) :
    Calls Try.prog 23 #[.pointer (some ⟨p, 0, none⟩)] w fun e w' => e = .returned (.int .i64 L.length) ∧ w = w' := by
  have c0 := h.blk.cell 0
  obtain ⟨s, r, hc⟩ := h.ch
  have hlen := fun ty => run_len_chan (P := Try.prog) 58 ty Try.underlying58 hc
  go_enter Try.func23, Try.ntmps23
  go_wp2
  go_ret
  exact ⟨by simp, rfl⟩
theorem lenS_nil {w : World} :
    Calls Try.prog 23 #[.pointer none] w fun e w' => e = .returned (.int .i64 0) ∧ w = w' := by
  go_enter Try.func23, Try.ntmps23
  go_wp2
  go_ret
  exact ⟨rfl, rfl⟩

set_option maxHeartbeats 1000000 in
theorem roomS_any {w : World} {p c cap : Nat} {L : List Value} (h : Que w p c 60 cap L) (hr : L.length ≤ cap) (hc : cap ≤ 1024) :
    Calls Try.prog 24 #[.pointer (some ⟨p, 0, none⟩)] w fun e w' => e = .returned (.int .i64 (cap - L.length : Nat)) ∧ w.drew = w' := by
  have c0 := h.blk.cell 0
  obtain ⟨s, r, hc⟩ := h.ch
  have hlen := fun ty => run_len_chan (P := Try.prog) (w := w.drew) 58 ty Try.underlying58 hc
  have hcap := fun ty => run_cap_chan (P := Try.prog) (w := w.drew) 58 ty Try.underlying58 hc
  have hwr : IntKind.wrap .i64 ((cap : Int) - L.length) = ((cap - L.length : Nat) : Int) := by
    rw [Go.IntWalk.i64_in _ (by omega)]
    omega
  go_enter Try.func24, Try.ntmps24
  go_wp2
  go_region
  go_wp2
  go_ret
  exact ⟨by simp, rfl⟩
theorem roomS_nil {w : World} :
    Calls Try.prog 24 #[.pointer none] w fun e w' => e = .returned (.int .i64 0) ∧ w = w' := by
  go_enter Try.func24, Try.ntmps24
  go_wp2
  go_ret
  exact ⟨rfl, rfl⟩
end Go.Proofs.Ytofgdemkddbjeaa
