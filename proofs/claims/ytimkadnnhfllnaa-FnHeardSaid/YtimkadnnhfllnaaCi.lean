
/- A channel that holds what a Sub has not heard. No conditions but those written. -/
import Derived.Test.YtimkadnnhfllnaaCh
namespace Go.Proofs.Ytimkadnnhfllnaa
open Go.RowKit Go.Conc

theorem LoneTo.bind {P : Program} {Q Q' : Goroutine → World → Prop} {g : Goroutine} {w : World} (h : LoneTo P Q g w) (hq : ∀ g' w', Q g' w' → LoneTo P Q' g' w') : LoneTo P Q' g w := by
  obtain ⟨g1, w1, hs, hq1⟩ := h
  obtain ⟨g2, w2, hs2, hq2⟩ := hq _ _ hq1
  exact ⟨g2, w2, Steps.trans hs hs2, hq2⟩
/-- A loop, walked step by step: each round comes back to its head with less to go, or comes to the end. -/
theorem loneTo_loop {P : Program} {Q : Goroutine → World → Prop} {b : Frame} {B : Code} {K : List Item} {cs : List Frame} (R : Nat → Act → World → Prop)
    (hr : ∀ m a w, R m a w → LoneTo P (fun g w' => (∃ m' a', m' < m ∧ R m' a' w' ∧ g = G (b.at a' (.inLoop B :: K)) cs) ∨ LoneTo P Q g w') (G (b.at a (.code B :: .inLoop B :: K)) cs) w) :
    ∀ (m : Nat) (a : Act) (w : World), R m a w → LoneTo P Q (G (b.at a (.code B :: .inLoop B :: K)) cs) w := by
  intro m
  induction m using Nat.strongRecOn with
  | _ m ih =>
    intro a w h
    refine LoneTo.bind (hr m a w h) fun g' w' hq => ?_
    rcases hq with ⟨m', a', hm, hR, rfl⟩ | hq
    · exact LoneTo.step (step_solo_go rfl stepG_inLoop) (ih m' hm a' w' hR)
    · exact hq
theorem mk_chan (n : Nat) (w : World) (hn : n ≤ 1048576) : (Instr.makeChan 56 (.int .i64 n)).run Try.prog w = .ok (.chan (some w.heap.size)) (w.alloc (.chan n #[] false 0 0 false)) := by
  obtain ⟨i, h1, h2, h3, h4⟩ := info_parts Try.info3
  exact run_makeChan (P := Try.prog) (w := w) Try.underlying56 h1 .i64 n (by omega) (by rw [h4]; omega)
set_option maxRecDepth 100000 in
set_option maxHeartbeats 8000000 in
theorem wireOf_any (nd kap : Int) (dr : Bool) (dp : Int) (qo : Option Addr) (qc : Nat) (q : List Int) (w : World) (h0 : 0 ≤ kap) (h1 : kap ≤ 1048576) (hq : (q.length : Int) ≤ kap) (hz : kI.In w.heap.size w qo q) :
    Calls Try.prog 22 #[.agg #[.int .i64 nd, .int .i64 kap, .bool dr, .int .i64 dp, .slice qo q.length qc]] w fun e w' => e = .returned (.chan (some (w.heap.size + 1))) ∧ ChB w' (w.heap.size + 1) kap.toNat q ∧ Below w.heap.size w w' := by
  obtain ⟨n, rfl⟩ : ∃ n : Nat, kap = n := ⟨kap.toNat, by omega⟩
  rw [show ((n : Int)).toNat = n from by omega]
  have hn : n ≤ 1048576 := by omega
  have hmc := mk_chan n (w.alloc (.cells #[.int .i64 nd, .int .i64 n, .bool dr, .int .i64 dp, .slice qo q.length qc] 36)) hn
  rw [World.size_alloc] at hmc
  refine calls_of_loneTo (fun cs => ?_)
  have e : Frame.enter Try.prog 22 #[.agg #[.int .i64 nd, .int .i64 n, .bool dr, .int .i64 dp, .slice qo q.length qc]] .normal = (base 22).at ⟨#[.agg #[.int .i64 nd, .int .i64 n, .bool dr, .int .i64 dp, .slice qo q.length qc], undef, undef, undef, undef, undef, undef, undef, undef, undef, undef, undef, undef, undef, undef, undef, undef, undef, undef, undef], []⟩ [.code (Try.f22.body.getD .skip)] := by
    simp [Frame.enter, Frame.at, Try.func22, base, Try.f22]
  rw [e]
  refine LoneTo.goes (n := 60) ?_
  simp only [Try.f22, Option.getD_some]
  s_c stepG_seq
  s_reg
  s_op
  s_op
  s_c stepG_region_end
  s_c stepG_seq
  s_reg
  s_op
  s_op
  s_op
  s_op
  s_c stepG_region_end
  s_c stepG_seq
  s_c stepG_seq
  s_reg
  s_op
  s_op
  s_op
  s_op
  s_c stepG_region_end
  s_c stepG_block
  s_c stepG_loop
  s_stop
  have V0 : ChB ((w.alloc (.cells #[.int .i64 nd, .int .i64 n, .bool dr, .int .i64 dp, .slice qo q.length qc] 36)).alloc (.chan n #[] false 0 0 false)) (w.heap.size + 1) n [] := ⟨0, 0, by
    have := heap_alloc_new (w.alloc (.cells #[.int .i64 nd, .int .i64 n, .bool dr, .int .i64 dp, .slice qo q.length qc] 36)) (.chan n #[] false 0 0 false)
    simp only [World.size_alloc] at this
    exact this⟩
  have hB0 : Below w.heap.size w ((w.alloc (.cells #[.int .i64 nd, .int .i64 n, .bool dr, .int .i64 dp, .slice qo q.length qc] 36)).alloc (.chan n #[] false 0 0 false)) := below2 w _ _
  refine loneTo_loop (R := fun m a w' => ∃ (k : Nat) (u5 u13 u14 u15 u16 u17 u18 : Value), a = ⟨#[.agg #[.int .i64 nd, .int .i64 n, .bool dr, .int .i64 dp, .slice qo q.length qc], .pointer (some ⟨w.heap.size, 0, none⟩), .chan none, .chan (some (w.heap.size + 1)), undef, u5, .pointer (some ⟨w.heap.size, 1, none⟩), .int .i64 n, .chan (some (w.heap.size + 1)), .pointer (some ⟨w.heap.size, 4, none⟩), .slice qo q.length qc, .int .i64 q.length, .int .i64 k, u13, u14, u15, u16, u17, u18, undef], []⟩ ∧ k + m = q.length ∧ ChB w' (w.heap.size + 1) n (q.take k) ∧ Below w.heap.size w w') ?_ q.length _ _ ⟨0, _, _, _, _, _, _, _, rfl, by omega, V0, hB0⟩
  clear V0 hB0 hmc e
  rintro m a w' ⟨k, u5, u13, u14, u15, u16, u17, u18, rfl, hk, hC, hB⟩
  by_cases hlt : k < q.length
  · obtain ⟨b0, off, rfl, hb, hc⟩ := ints_at hz hlt
    have d1 := (hB.cell (p := ⟨b0, off + k, none⟩) hb).trans (hc k hlt)
    have HT := take_succ_el hlt
    obtain ⟨z, ez⟩ : ∃ z, z = el q k := ⟨_, rfl⟩
    rw [← ez] at d1 HT
    have hkt : decide ((k : Int) < (q.length : Int)) = true := by simp; omega
    have hk1 : (k : Int) < (q.length : Int) := by omega
    have hk0 : (0 : Int) ≤ (k : Int) := by omega
    obtain ⟨s, r, hch⟩ := id hC
    clear hc ez
    refine LoneTo.goes (n := 60) ?_
    s_c stepG_seq
    s_reg
    s_op
    s_c stepG_region_end
    s_c stepG_seq
    s_cond true
    s_c stepG_skip
    s_c stepG_seq
    s_c stepG_block
    s_c stepG_seq
    s_reg
    s_op
    s_op
    s_op
    s_c stepG_region_end
    s_reg
    s_op
    s_op
    s_stop
    refine LoneTo.step (step_lone_send_room (c := w.heap.size + 1) (v := .int .i64 z) (z' := .tuple #[]) (cap := n) (buf := ((q.take k).map (Value.int .i64)).toArray) (s := s) (r := r) (tm := false) (stepG_comm (cases := #[scase (w.heap.size + 1) (.int .i64 z) (.tuple #[])]) (blocking := true) (shape := .send) (w' := w') rfl rfl (by decide) (by simp [execOp, scase, Act.eval])) hch (by simp; omega)) ?_
    rw [Frame.finish_at]
    walk_nrm
    refine LoneTo.goes (n := 60) ?_
    s_c stepG_region_end
    s_c stepG_inBlock
    s_reg
    s_op
    s_op
    s_c stepG_region_end
    s_stop
    have hwr : IntKind.i64.wrap ((k : Int) + 1) = ((k + 1 : Nat) : Int) := by rw [IntKind.wrap_i64]; omega
    rw [hwr]
    refine LoneTo.done (.inl ⟨m - 1, _, by omega, ⟨k + 1, _, _, _, _, _, _, _, rfl, by omega, ?_, ?_⟩, rfl⟩)
    · have h := ChB.set (ys := q.take (k + 1)) hC (s + 1) r
      rw [HT] at h ⊢
      simpa using h
    · exact hB.trans ((OnlyAt.setChan _ _ _ _ _ _).below (by omega))
  · obtain rfl : k = q.length := by omega
    have hkf : decide ((q.length : Int) < (q.length : Int)) = false := by simp
    rw [List.take_length] at hC
    refine LoneTo.goes (n := 60) ?_
    s_c stepG_seq
    s_reg
    s_op
    s_c stepG_region_end
    s_c stepG_seq
    s_cond false
    s_exit
    s_c stepG_seq
    s_reg
    s_op
    s_op
    s_c stepG_region_end
    s_c stepG_ret'
    s_stop
    exact LoneTo.done (.inr (LoneTo.done ⟨.returned (.chan (some (w.heap.size + 1))), _, rfl, ⟨rfl, hC, hB⟩, rfl, rfl, rfl, rfl, _, Try.func22, by simp [results, Try.f22, Frame.at]⟩))
end Go.Proofs.Ytimkadnnhfllnaa
