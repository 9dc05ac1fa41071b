
/- Queues of Subs made. No conditions but those written. -/
import Derived.Test.YtdghlgpkcpndjaaTk
namespace Go.Proofs.Ytdghlgpkcpndjaa
open Go.RowKit

theorem run_fieldS (a : Option Addr) (n c : Nat) (w : World) : (Instr.field 72 (.agg #[.slice a n c]) 0).run Try.prog w = .ok (.slice a n c) w := by
  simp [Instr.field, go_sem, run_underlying Try.underlying72, asAgg]
set_option maxHeartbeats 1000000 in
theorem queueOfS_any (ao : Option Addr) (cap : Nat) (ts : List (LSub)) (w : World) (hl : ts.length ≤ 1048576) (hz : hSub.In w.heap.size w ao ts) :
    Calls Try.prog 42 #[.slice ao ts.length cap] w fun e w' => (∃ to, e = .returned (.agg #[.slice to ts.length ts.length]) ∧ hSub.Fresh w.heap.size w'.heap.size w' to ts.length ts) ∧ Below w.heap.size w w' := by
  go_enter Try.func42, Try.ntmps42
  go_wp2_with fail
  refine (copyListS_any ao cap ts _ hl (hz.later (below1 _ _))).mono ?_
  rintro e w1 ⟨⟨go, rfl, hO⟩, hb1⟩
  have hB1 := (below1 w (.cells #[.slice none 0 0] 72)).trans (hb1.mono (by simp))
  have c1 : w1.cell? ⟨w.heap.size, 0, none⟩ = some (.slice none 0 0) := (hb1.cell (p := ⟨w.heap.size, 0, none⟩) (by simp)).trans (by simp [go_sem])
  have f1 : w1.frozen? ⟨w.heap.size, 0, none⟩ = false := (hb1.frozen (p := ⟨w.heap.size, 0, none⟩) (by simp)).trans (by simp [go_sem])
  have HO : Hid (hSub.Fresh (w.heap.size + 1) w1.heap.size w1 go ts.length ts) := by rw [World.size_alloc] at hO; exact hO
  clear hO hb1
  go_wp2
  refine bodyPost_ret (v := .agg #[.slice go ts.length ts.length]) (by simp [results, Try.results42, go_sem, c1]) rfl ⟨⟨go, rfl, ?_⟩, ?_⟩
  · exact (HO.out.setBelow (by simp) _).wide (by omega) (by simp)
  · exact hB1.setCell (p := ⟨w.heap.size, 0, none⟩) (Nat.le_refl _) _
theorem run_field72 (a : Option Addr) (n c : Nat) (w : World) : (Instr.field 72 (.agg #[.slice a n c]) 0).run Try.prog w = .ok (.slice a n c) w := by
  simp [Instr.field, go_sem, run_underlying Try.underlying72, asAgg]
end Go.Proofs.Ytdghlgpkcpndjaa
