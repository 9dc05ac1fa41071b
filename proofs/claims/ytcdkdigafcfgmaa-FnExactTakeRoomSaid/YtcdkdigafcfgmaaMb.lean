/- A room copied. No conditions but those written. -/
import Derived.Test.YtcdkdigafcfgmaaMa
namespace Go.Proofs.Ytcdkdigafcfgmaa
open Go.RowKit

set_option maxRecDepth 10000 in
set_option maxHeartbeats 4000000 in
theorem copyRoom_any (s1 s2 : Int) (ao : Option Addr) (cap : Nat) (ts : List (Int × Int)) (w : World) (hl : ts.length ≤ 1048576) (hz : kN.In w.heap.size w ao ts) :
    Calls Try.prog 75 #[.agg #[.int .i64 s1, .int .i64 s2, .slice ao ts.length cap]] w fun e w' => (∃ go1, e = .returned (.agg #[.int .i64 s1, .int .i64 s2, .slice go1 ts.length ts.length]) ∧ kN.Fresh w.heap.size w'.heap.size w' go1 ts.length ts) ∧ Below w.heap.size w w' := by
  obtain ⟨W2, hW2⟩ : ∃ W2, W2 = (w.alloc (.cells #[.int .i64 s1, .int .i64 s2, .slice ao ts.length cap] 46)).alloc (.cells #[.int .i64 0, .int .i64 0, .slice none 0 0] 46) := ⟨_, rfl⟩
  have hB2 : Below w.heap.size w W2 := by rw [hW2]; exact below2 _ _ _
  have A2 : Bx W2 w.heap.size [.int .i64 s1, .int .i64 s2, .slice ao ts.length cap] := by rw [hW2]; exact (Bx.new [.int .i64 s1, .int .i64 s2, .slice ao ts.length cap] _ rfl).alloc _
  have R2 : Bx W2 (w.heap.size + 1) [.int .i64 0, .int .i64 0, .slice none 0 0] := by rw [hW2]; exact Bx.new [.int .i64 0, .int .i64 0, .slice none 0 0] _ (by simp)
  have HW : Hid (W2 = (w.alloc (.cells #[.int .i64 s1, .int .i64 s2, .slice ao ts.length cap] 46)).alloc (.cells #[.int .i64 0, .int .i64 0, .slice none 0 0] 46)) := hW2
  have HS : Hid (W2.heap.size = w.heap.size + 1 + 1) := by rw [hW2]; simp [Hid]
  have hsl : w.heap.size < W2.heap.size := A2.size
  clear hW2
  have a0 := A2.c 0 rfl
  have a1 := A2.c 1 rfl
  have a2 := A2.c 2 rfl
  go_enter Try.func75, Try.ntmps75
  go_wp2
  rw [← HW.out]
  go_region_held3 (fun Y => Y.cell? ⟨w.heap.size, 0, none⟩ = some (.int .i64 s1) ∧ Y.cell? ⟨w.heap.size, 1, none⟩ = some (.int .i64 s2) ∧ Y.cell? ⟨w.heap.size, 2, none⟩ = some (.slice ao ts.length cap))
    (first | ((refine ⟨?_, ?_, ?_⟩ <;> (rw [World.cell?_setCell_other _ _ _ _ (by simp), World.cell?_setCell_other _ _ _ _ (by simp), World.cell?_setCell_other _ _ _ _ (by simp)])); exact P1.1; exact P1.2.1; exact P1.2.2) | exact ⟨a0, a1, a2⟩ | exact P1)
    (first
      | (go_at_call 101; refine (copyListN_any ao cap ts _ hl (by exact hz.later hB2.drew)).mono ?_; rintro e w1 ⟨⟨go1, rfl, hF1⟩, hb1⟩; have hB3 : Below w.heap.size w w1 := hB2.drew.trans (hb1.mono hB2.size); have A3 := A2.drew.later hb1; have R3 := R2.drew.later hb1; have P1 := (⟨A3.c 0 rfl, A3.c 1 rfl, A3.c 2 rfl⟩ : w1.cell? ⟨w.heap.size, 0, none⟩ = some (.int .i64 s1) ∧ w1.cell? ⟨w.heap.size, 1, none⟩ = some (.int .i64 s2) ∧ w1.cell? ⟨w.heap.size, 2, none⟩ = some (.slice ao ts.length cap)); have r0 := R3.c 0 rfl; have f0 := R3.f 0 rfl; have r1 := R3.c 1 rfl; have f1 := R3.f 1 rfl; have r2 := R3.c 2 rfl; have f2 := R3.f 2 rfl; have F3 : Hid (kN.Fresh W2.heap.size w1.heap.size w1 go1 ts.length ts) := hF1; clear hF1 hb1))
  all_goals
    go_wp2
    refine bodyPost_ret (v := .agg #[.int .i64 s1, .int .i64 s2, .slice go1 ts.length ts.length]) (by simp [results, Try.results75, go_sem, r0, r1, r2]) rfl ⟨⟨go1, rfl, ?_⟩, ?_⟩
    · have h0 := F3.out
      rw [HS.out] at h0
      exact (((h0.setBelow (a := ⟨w.heap.size + 1, 0, none⟩) (by simp) _).setBelow (a := ⟨w.heap.size + 1, 1, none⟩) (by simp) _).setBelow (a := ⟨w.heap.size + 1, 2, none⟩) (by simp) _).wide (by omega) (by simp)
    · exact (((hB3.setCell (p := ⟨w.heap.size + 1, 0, none⟩) (by simp) _).setCell (p := ⟨w.heap.size + 1, 1, none⟩) (by simp) _).setCell (p := ⟨w.heap.size + 1, 2, none⟩) (by simp) _)
end Go.Proofs.Ytcdkdigafcfgmaa
