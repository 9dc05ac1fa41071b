
/- Channels that one goroutine alone has: one value said, one value heard. No conditions but those written. -/
import Derived.Test.YtimkadnnhfllnaaTq
import Derived.Conc.LoneSelect
namespace Go.Proofs.Ytimkadnnhfllnaa
open Go.RowKit Go.Conc

/-- At c lies an open channel with room for n, in which the numbers xs lie. -/
def ChB (W : World) (c n : Nat) (xs : List Int) : Prop := ∃ s r, W.heap[c]? = some (.chan n (xs.map (Value.int .i64)).toArray false s r false)
theorem ChB.lt {W : World} {c n : Nat} {xs : List Int} (h : ChB W c n xs) : c < W.heap.size := by
  obtain ⟨s, r, h⟩ := h
  exact (Array.getElem?_eq_some_iff.1 h).1
theorem ChB.keep {W W' : World} {c n : Nat} {xs : List Int} (h : ChB W c n xs) (hk : W'.heap[c]? = W.heap[c]?) : ChB W' c n xs := by
  obtain ⟨s, r, h⟩ := h
  exact ⟨s, r, hk.trans h⟩
theorem ChB.later {W W' : World} {c n : Nat} {xs : List Int} (h : ChB W c n xs) (hb : Below W.heap.size W W') : ChB W' c n xs := h.keep (hb.block c h.lt)
theorem ChB.set {W : World} {c n : Nat} {xs ys : List Int} (h : ChB W c n xs) (s r : Nat) : ChB (W.setChan c n (ys.map (Value.int .i64)).toArray false s r false) c n ys := ⟨s, r, heap_setChan _ _ _ _ _ _ _ _ h.lt⟩
theorem OnlyAt.setChan (W : World) (c n : Nat) (buf : Array Value) (s r : Nat) : OnlyAt (some ⟨c, 0, none⟩) W (W.setChan c n buf false s r false) :=
  ⟨rfl, rfl, rfl, by simp [World.setChan], fun k hk => by simp only [World.setChan]; rw [Array.getElem?_setIfInBounds_ne (fun e => hk c rfl e.symm)]⟩
theorem OnlyAt.same (ao : Option Addr) (W : World) : OnlyAt ao W W := OnlyAt.refl _ _
set_option maxRecDepth 100000 in
set_option maxHeartbeats 2000000 in
theorem sayOn_room (c n : Nat) (xs : List Int) (v : Int) (w : World) (h : ChB w c n xs) (hroom : xs.length < n) :
    Calls Try.prog 35 #[.chan (some c), .int .i64 v] w fun e w' => e = .returned (.bool true) ∧ ChB w' c n (xs ++ [v]) ∧ OnlyAt (some ⟨c, 0, none⟩) w w' := by
  obtain ⟨s, r, hc⟩ := id h
  refine calls_of_loneTo (fun cs => ?_)
  have e : Frame.enter Try.prog 35 #[.chan (some c), .int .i64 v] .normal = (base 35).at ⟨#[.chan (some c), .int .i64 v, undef, undef, undef, undef, undef, undef, undef, undef], []⟩ [.code (Try.f35.body.getD .skip)] := by
    simp [Frame.enter, Frame.at, Try.func35, base, Try.f35]
  rw [e]
  refine LoneTo.goes (n := 40) ?_
  simp only [Try.f35, Option.getD_some]
  s_c stepG_seq
  s_reg
  s_op
  s_c stepG_region_end
  s_c stepG_seq
  s_c stepG_seq
  s_reg
  s_op
  s_c stepG_region_end
  s_reg
  s_op
  s_c stepG_region_end
  s_c stepG_seq
  s_reg
  s_stop
  refine LoneTo.step (step_lone_select_send_room (c := c) (v := .int .i64 v) (z' := .int .i64 0) (cap := n) (buf := (xs.map (Value.int .i64)).toArray) (s := s) (r := r) (tm := false) (stepG_comm (cases := #[scase c (.int .i64 v) (.int .i64 0)]) (blocking := false) (shape := .select) (w' := w) rfl rfl (by decide) (by simp [go_sem, execOp, scase, Act.eval])) hc (by simpa using hroom)) ?_
  rw [Frame.finish_at]
  walk_nrm
  refine LoneTo.goes (n := 40) ?_
  s_op
  s_op
  s_c stepG_region_end
  s_c stepG_block
  s_cond true
  s_c stepG_seq
  s_reg
  s_op
  s_c stepG_region_end
  s_c stepG_ret'
  s_stop
  refine LoneTo.done ⟨.returned (.bool true), _, rfl, ⟨rfl, ?_, ?_⟩, rfl, rfl, rfl, rfl, _, Try.func35, by simp [results, Try.f35, Frame.at]⟩
  · have h := ChB.set (ys := xs ++ [v]) h (s + 1) r
    simpa using h
  · exact OnlyAt.setChan _ _ _ _ _ _
set_option maxRecDepth 100000 in
set_option maxHeartbeats 2000000 in
theorem sayOn_full (c n : Nat) (xs : List Int) (v : Int) (w : World) (h : ChB w c n xs) (hroom : n ≤ xs.length) :
    Calls Try.prog 35 #[.chan (some c), .int .i64 v] w fun e w' => e = .returned (.bool false) ∧ w' = w := by
  obtain ⟨s, r, hc⟩ := id h
  refine calls_of_loneTo (fun cs => ?_)
  have e : Frame.enter Try.prog 35 #[.chan (some c), .int .i64 v] .normal = (base 35).at ⟨#[.chan (some c), .int .i64 v, undef, undef, undef, undef, undef, undef, undef, undef], []⟩ [.code (Try.f35.body.getD .skip)] := by
    simp [Frame.enter, Frame.at, Try.func35, base, Try.f35]
  rw [e]
  refine LoneTo.goes (n := 40) ?_
  simp only [Try.f35, Option.getD_some]
  s_c stepG_seq
  s_reg
  s_op
  s_c stepG_region_end
  s_c stepG_seq
  s_c stepG_seq
  s_reg
  s_op
  s_c stepG_region_end
  s_reg
  s_op
  s_c stepG_region_end
  s_c stepG_seq
  s_reg
  s_stop
  refine LoneTo.step (step_lone_select_send_full (c := c) (v := .int .i64 v) (z' := .int .i64 0) (cap := n) (buf := (xs.map (Value.int .i64)).toArray) (s := s) (r := r) (tm := false) (stepG_comm (cases := #[scase c (.int .i64 v) (.int .i64 0)]) (blocking := false) (shape := .select) (w' := w) rfl rfl (by decide) (by simp [go_sem, execOp, scase, Act.eval])) hc (by simpa using hroom)) ?_
  rw [Frame.finish_at]
  walk_nrm
  refine LoneTo.goes (n := 40) ?_
  s_op
  s_op
  s_c stepG_region_end
  s_c stepG_block
  s_cond false
  s_c stepG_seq
  s_reg
  s_op
  s_c stepG_region_end
  s_c stepG_ret'
  s_stop
  exact LoneTo.done ⟨.returned (.bool false), _, rfl, ⟨rfl, rfl⟩, rfl, rfl, rfl, rfl, _, Try.func35, by simp [results, Try.f35, Frame.at]⟩
set_option maxRecDepth 100000 in
set_option maxHeartbeats 2000000 in
theorem hearOn_some (c n : Nat) (x : Int) (xs : List Int) (w : World) (h : ChB w c n (x :: xs)) :
    Calls Try.prog 23 #[.chan (some c)] w fun e w' => e = .returned (.tuple #[.int .i64 x, .bool true]) ∧ ChB w' c n xs ∧ OnlyAt (some ⟨c, 0, none⟩) w w' := by
  obtain ⟨s, r, hc⟩ := id h
  refine calls_of_loneTo (fun cs => ?_)
  have e : Frame.enter Try.prog 23 #[.chan (some c)] .normal = (base 23).at ⟨#[.chan (some c), undef, undef, undef, undef, undef, undef, undef, undef, undef, undef], []⟩ [.code (Try.f23.body.getD .skip)] := by
    simp [Frame.enter, Frame.at, Try.func23, base, Try.f23]
  rw [e]
  refine LoneTo.goes (n := 40) ?_
  simp only [Try.f23, Option.getD_some]
  s_c stepG_seq
  s_reg
  s_op
  s_op
  s_c stepG_region_end
  s_c stepG_seq
  s_reg
  s_op
  s_c stepG_region_end
  s_c stepG_seq
  s_reg
  s_stop
  refine LoneTo.step (step_lone_select_recv_buf (c := c) (z := .int .i64 0) (cap := n) (buf := ((x :: xs).map (Value.int .i64)).toArray) (closed := false) (s := s) (r := r) (tm := false) (stepG_comm (cases := #[rcase c (.int .i64 0)]) (blocking := false) (shape := .select) (w' := w) rfl rfl (by decide) (by simp [go_sem, execOp, rcase, Act.eval])) hc (by simp)) ?_
  rw [Frame.finish_at]
  walk_nrm
  refine LoneTo.goes (n := 40) ?_
  s_op
  s_op
  s_c stepG_region_end
  s_c stepG_block
  s_cond true
  s_c stepG_seq
  s_reg
  s_op
  s_op
  s_c stepG_region_end
  s_c stepG_seq
  s_reg
  s_op
  s_op
  s_op
  s_c stepG_region_end
  s_c stepG_ret'
  s_stop
  refine LoneTo.done ⟨.returned (.tuple #[.int .i64 x, .bool true]), _, rfl, ⟨rfl, ?_, ?_⟩, rfl, rfl, rfl, rfl, _, Try.func23, by simp [results, Try.f23, Frame.at]⟩
  · have h := ChB.set (ys := xs) h s (r + 1)
    simpa [List.take_of_length_le] using h
  · exact OnlyAt.setChan _ _ _ _ _ _
set_option maxRecDepth 100000 in
set_option maxHeartbeats 2000000 in
theorem hearOn_none (c n : Nat) (w : World) (h : ChB w c n []) :
    Calls Try.prog 23 #[.chan (some c)] w fun e w' => e = .returned (.tuple #[.int .i64 0, .bool false]) ∧ w' = w := by
  obtain ⟨s, r, hc⟩ := id h
  refine calls_of_loneTo (fun cs => ?_)
  have e : Frame.enter Try.prog 23 #[.chan (some c)] .normal = (base 23).at ⟨#[.chan (some c), undef, undef, undef, undef, undef, undef, undef, undef, undef, undef], []⟩ [.code (Try.f23.body.getD .skip)] := by
    simp [Frame.enter, Frame.at, Try.func23, base, Try.f23]
  rw [e]
  refine LoneTo.goes (n := 40) ?_
  simp only [Try.f23, Option.getD_some]
  s_c stepG_seq
  s_reg
  s_op
  s_op
  s_c stepG_region_end
  s_c stepG_seq
  s_reg
  s_op
  s_c stepG_region_end
  s_c stepG_seq
  s_reg
  s_stop
  refine LoneTo.step (step_lone_select_default (c := c) (z := .int .i64 0) (cap := n) (s := s) (r := r) (tm := false) (stepG_comm (cases := #[rcase c (.int .i64 0)]) (blocking := false) (shape := .select) (w' := w) rfl rfl (by decide) (by simp [go_sem, execOp, rcase, Act.eval])) hc) ?_
  rw [Frame.finish_at]
  walk_nrm
  refine LoneTo.goes (n := 40) ?_
  s_op
  s_op
  s_c stepG_region_end
  s_c stepG_block
  s_cond false
  s_c stepG_seq
  s_reg
  s_op
  s_op
  s_c stepG_region_end
  s_c stepG_ret'
  s_stop
  exact LoneTo.done ⟨.returned (.tuple #[.int .i64 0, .bool false]), _, rfl, ⟨rfl, rfl⟩, rfl, rfl, rfl, rfl, _, Try.func23, by simp [results, Try.f23, Frame.at]⟩
end Go.Proofs.Ytimkadnnhfllnaa
