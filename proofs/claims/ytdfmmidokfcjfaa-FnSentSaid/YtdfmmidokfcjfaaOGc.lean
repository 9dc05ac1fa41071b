
/- The first that waits and the others; one more that waits. No conditions but those written. -/
import Derived.Test.YtdfmmidokfcjfaaOGb
namespace Go.Proofs.Ytdfmmidokfcjfaa.Old
open Go.RowKit

theorem keepN_first (ts : List T3) (h : 0 < ts.length) : keepN ts 0 (List.range ts.length) = ts.drop 1 := by
  have := keepN_range ts 0 h
  simpa using this

set_option maxRecDepth 10000 in
set_option maxHeartbeats 8000000 in
theorem firstAndOthers_any (ao : Option Addr) (cap : Nat) (ts : List T3) (x1 x2 x3 : Int) (w : World) (hl : ts.length ≤ 1048576) (h0 : 0 < ts.length) (hx : t3 ts 0 = (x1, x2, x3)) (hz : TimersIn w.heap.size w ao ts) :
    Calls Try.prog 14 #[.slice ao ts.length cap] w fun e w' => (∃ go qc, e = .returned (.tuple #[.agg #[.int .i64 x1, .int .i64 x2, .int .i64 x3], .slice go (ts.drop 1).length qc]) ∧ FreshC w.heap.size w'.heap.size w' go qc (ts.drop 1)) ∧ Below w.heap.size w w' := by
  obtain ⟨D, hD⟩ : ∃ D, D = ts.drop 1 := ⟨_, rfl⟩
  have HD : Hid (D = keepN ts 0 (List.range ts.length)) := by rw [Hid, keepN_first ts h0]; exact hD
  rw [← hD]
  clear hD
  obtain ⟨b, off, rfl, hb, hc⟩ := hz.pos h0
  obtain ⟨c1, c2, c3⟩ := hc 0 h0
  rw [hx] at c1 c2 c3
  simp only [Nat.zero_mul, Nat.add_zero] at c1 c2 c3
  have h0i : (0 : Int) < (ts.length : Int) := by omega
  obtain ⟨W1, hW1⟩ : ∃ W1, W1 = w.alloc (.cells #[.int .i64 0, .int .i64 0, .int .i64 0] 28) := ⟨_, rfl⟩
  have hB1 : Below w.heap.size w W1 := by rw [hW1]; exact below1 _ _
  have d1 := (hB1.cell (p := ⟨b, off, none⟩) hb).trans c1
  have d2 := (hB1.cell (p := ⟨b, off + 1, none⟩) hb).trans c2
  have d3 := (hB1.cell (p := ⟨b, off + 2, none⟩) hb).trans c3
  have r0 : W1.cell? ⟨w.heap.size, 0, none⟩ = some (.int .i64 0) := by rw [hW1]; simp
  have r1 : W1.cell? ⟨w.heap.size, 1, none⟩ = some (.int .i64 0) := by rw [hW1]; simp
  have r2 : W1.cell? ⟨w.heap.size, 2, none⟩ = some (.int .i64 0) := by rw [hW1]; simp
  have f0 : W1.frozen? ⟨w.heap.size, 0, none⟩ = false := by rw [hW1]; simp [go_sem]
  have f1 : W1.frozen? ⟨w.heap.size, 1, none⟩ = false := by rw [hW1]; simp [go_sem]
  have f2 : W1.frozen? ⟨w.heap.size, 2, none⟩ = false := by rw [hW1]; simp [go_sem]
  have HW : Hid (W1 = w.alloc (.cells #[.int .i64 0, .int .i64 0, .int .i64 0] 28)) := hW1
  have HS : Hid (W1.heap.size = w.heap.size + 1) := by rw [hW1]; simp [Hid]
  have hN : w.heap.size < W1.heap.size := by rw [HS.out]; omega
  have hbW : b < W1.heap.size := by rw [HS.out]; omega
  have hbn : b ≠ w.heap.size := by omega
  have HC : Hid (∀ j, j < ts.length → w.cell? ⟨b, off + j * 3, none⟩ = some (.int .i64 (t3 ts j).1) ∧ w.cell? ⟨b, off + j * 3 + 1, none⟩ = some (.int .i64 (t3 ts j).2.1) ∧ w.cell? ⟨b, off + j * 3 + 2, none⟩ = some (.int .i64 (t3 ts j).2.2)) := hc
  clear hW1 hc hx
  have hfl := run_field71
  go_enter Try.func14, Try.ntmps14
  go_wp2
  rw [← HW.out]
  go_region_held3 (fun Y => Y.cell? ⟨b, off, none⟩ = some (.int .i64 x1) ∧ Y.cell? ⟨b, off + 1, none⟩ = some (.int .i64 x2) ∧ Y.cell? ⟨b, off + 2, none⟩ = some (.int .i64 x3))
    (first | ((refine ⟨?_, ?_, ?_⟩ <;> (rw [World.cell?_setCell_other _ _ _ _ (addr_ne (by omega)), World.cell?_setCell_other _ _ _ _ (addr_ne (by omega)), World.cell?_setCell_other _ _ _ _ (addr_ne (by omega))])); exact P3.1; exact P3.2.1; exact P3.2.2) | exact ⟨d1, d2, d3⟩ | exact P2 | exact P3)
    (first
      | (go_at_call 38; refine (queueOfW_any (some ⟨b, off, none⟩) cap ts _ hl (by exact hz.later hB1.drew)).mono ?_; rintro e w2 ⟨⟨to, rfl, hT⟩, hb2⟩; have hb2' : Below W1.heap.size W1 w2 := (Below.refl W1.heap.size W1).drew.trans hb2; have hB2 : Below w.heap.size w w2 := hB1.trans (hb2'.mono hB1.size); have P2 := (⟨(hb2'.cell (p := ⟨b, off, none⟩) hbW).trans d1, (hb2'.cell (p := ⟨b, off + 1, none⟩) hbW).trans d2, (hb2'.cell (p := ⟨b, off + 2, none⟩) hbW).trans d3⟩ : w2.cell? ⟨b, off, none⟩ = some (.int .i64 x1) ∧ w2.cell? ⟨b, off + 1, none⟩ = some (.int .i64 x2) ∧ w2.cell? ⟨b, off + 2, none⟩ = some (.int .i64 x3)); have HT : Hid (TimersIn w2.heap.size w2 to ts) := hT.timers; clear hT hb2)
      | (go_at_call 39; refine (without_any to ts.length ts 0 w2 hl HT.out D HD.out).mono ?_; rintro e w3 ⟨⟨go, qc, rfl, hF⟩, hb3⟩; have hb3' : Below W1.heap.size W1 w3 := hb2'.trans (hb3.mono hb2'.size); have hB3 : Below w.heap.size w w3 := hB1.trans (hb3'.mono hB1.size); have P3 := (⟨(hb3'.cell (p := ⟨b, off, none⟩) hbW).trans d1, (hb3'.cell (p := ⟨b, off + 1, none⟩) hbW).trans d2, (hb3'.cell (p := ⟨b, off + 2, none⟩) hbW).trans d3⟩ : w3.cell? ⟨b, off, none⟩ = some (.int .i64 x1) ∧ w3.cell? ⟨b, off + 1, none⟩ = some (.int .i64 x2) ∧ w3.cell? ⟨b, off + 2, none⟩ = some (.int .i64 x3)); have s0 := (hb3'.cell (p := ⟨w.heap.size, 0, none⟩) hN).trans r0; have s1 := (hb3'.cell (p := ⟨w.heap.size, 1, none⟩) hN).trans r1; have s2 := (hb3'.cell (p := ⟨w.heap.size, 2, none⟩) hN).trans r2; have t0 := (hb3'.frozen (p := ⟨w.heap.size, 0, none⟩) hN).trans f0; have t1 := (hb3'.frozen (p := ⟨w.heap.size, 1, none⟩) hN).trans f1; have t2 := (hb3'.frozen (p := ⟨w.heap.size, 2, none⟩) hN).trans f2; have HF : Hid (FreshC (w.heap.size + 1) w3.heap.size w3 go qc D) := hF.wide (by have := hb2'.size; rw [HS.out] at this; exact this) (Nat.le_refl _); clear hF hb3))
  all_goals
    go_wp2
    refine bodyPost_ret (v := .tuple #[.agg #[.int .i64 x1, .int .i64 x2, .int .i64 x3], .slice go D.length qc]) (by simp [results, Try.results14, go_sem, s0, s1, s2]) rfl ⟨⟨go, qc, rfl, ?_⟩, ?_⟩
    · exact (((HF.out.setBelow (a := ⟨w.heap.size, 0, none⟩) (by simp) _).setBelow (a := ⟨w.heap.size, 1, none⟩) (by simp) _).setBelow (a := ⟨w.heap.size, 2, none⟩) (by simp) _).wide (by omega) (by simp)
    · exact ((hB3.setCell (p := ⟨w.heap.size, 0, none⟩) (by simp) _).setCell (p := ⟨w.heap.size, 1, none⟩) (by simp) _).setCell (p := ⟨w.heap.size, 2, none⟩) (by simp) _

/-- One more waits, where there is room. -/
def moreW (ts : List T3) (t : T3) : List T3 × Int := if ts.length = 40 then (ts, 5) else (ts ++ [t], 1)

set_option maxRecDepth 10000 in
set_option maxHeartbeats 8000000 in
theorem waitBehind_any (ao : Option Addr) (cap : Nat) (ts : List T3) (x1 x2 x3 : Int) (w : World) (hl : ts.length ≤ 1048575) (hz : TimersIn w.heap.size w ao ts) (R : List T3 × Int) (hR : moreW ts (x1, x2, x3) = R) :
    Calls Try.prog 19 #[.slice ao ts.length cap, .agg #[.int .i64 x1, .int .i64 x2, .int .i64 x3]] w fun e w' => (∃ go qc, e = .returned (.tuple #[.slice go R.1.length qc, .int .i64 R.2]) ∧ FreshC w.heap.size w'.heap.size w' go qc R.1) ∧ Below w.heap.size w w' := by
  obtain ⟨W1, hW1⟩ : ∃ W1, W1 = w.alloc (.cells #[.int .i64 x1, .int .i64 x2, .int .i64 x3] 28) := ⟨_, rfl⟩
  have hB1 : Below w.heap.size w W1 := by rw [hW1]; exact below1 _ _
  have d1 : W1.cell? ⟨w.heap.size, 0, none⟩ = some (.int .i64 x1) := by rw [hW1]; simp
  have d2 : W1.cell? ⟨w.heap.size, 1, none⟩ = some (.int .i64 x2) := by rw [hW1]; simp
  have d3 : W1.cell? ⟨w.heap.size, 2, none⟩ = some (.int .i64 x3) := by rw [hW1]; simp
  have HW : Hid (W1 = w.alloc (.cells #[.int .i64 x1, .int .i64 x2, .int .i64 x3] 28)) := hW1
  have HS : Hid (W1.heap.size = w.heap.size + 1) := by rw [hW1]; simp [Hid]
  have hN : w.heap.size < W1.heap.size := by rw [HS.out]; omega
  clear hW1
  by_cases h40 : ts.length = 40
  · have HR : Hid (R = (ts, 5)) := by rw [Hid, ← hR, moreW, if_pos h40]
    have h40' : ((ts.length : Int) == 40) = true := by rw [h40]; rfl
    clear hR h40
    go_enter Try.func19, Try.ntmps19
    go_wp2_with fail
    rw [← HW.out]
    refine (copyListW_any ao cap ts W1 (by omega) (hz.later hB1)).mono ?_
    rintro e w2 ⟨⟨to, rfl, hF⟩, hb2⟩
    have hB2 := hB1.trans (hb2.mono hB1.size)
    have HF : Hid (FreshC w.heap.size w2.heap.size w2 to ts.length ts) := hF.wide (by rw [HS.out]; omega) (Nat.le_refl _)
    clear hF hb2
    go_wp2
    refine bodyPost_ret (v := .tuple #[.slice to ts.length ts.length, .int .i64 5]) (by simp [results, Try.results19, go_sem]) rfl ?_
    rw [HR.out]
    exact ⟨⟨to, _, rfl, HF.out⟩, hB2⟩
  · have HR : Hid (R = (ts ++ [(x1, x2, x3)], 1)) := by rw [Hid, ← hR, moreW, if_neg h40]
    have h40' : ((ts.length : Int) == 40) = false := by rw [beq_eq_false_iff_ne]; omega
    clear hR h40
    have hfl := run_field71
    go_enter Try.func19, Try.ntmps19
    go_wp2
    rw [← HW.out]
    go_region_held3 (fun Y => Y.cell? ⟨w.heap.size, 0, none⟩ = some (.int .i64 x1) ∧ Y.cell? ⟨w.heap.size, 1, none⟩ = some (.int .i64 x2) ∧ Y.cell? ⟨w.heap.size, 2, none⟩ = some (.int .i64 x3))
      (first | exact ⟨d1, d2, d3⟩ | exact P2 | exact P3)
      (first
        | (go_at_call 38; refine (queueOfW_any ao cap ts _ (by omega) (by exact hz.later hB1.drew)).mono ?_; rintro e w2 ⟨⟨to, rfl, hT⟩, hb2⟩; have hb2' : Below W1.heap.size W1 w2 := (Below.refl W1.heap.size W1).drew.trans hb2; have hB2 : Below w.heap.size w w2 := hB1.trans (hb2'.mono hB1.size); have P2 := (⟨(hb2'.cell (p := ⟨w.heap.size, 0, none⟩) hN).trans d1, (hb2'.cell (p := ⟨w.heap.size, 1, none⟩) hN).trans d2, (hb2'.cell (p := ⟨w.heap.size, 2, none⟩) hN).trans d3⟩ : w2.cell? ⟨w.heap.size, 0, none⟩ = some (.int .i64 x1) ∧ w2.cell? ⟨w.heap.size, 1, none⟩ = some (.int .i64 x2) ∧ w2.cell? ⟨w.heap.size, 2, none⟩ = some (.int .i64 x3)); have HT : Hid (TimersIn w2.heap.size w2 to ts) := hT.timers; clear hT hb2)
        | (go_at_call 40; refine (with_any to ts.length ts x1 x2 x3 w2 (by omega) HT.out).mono ?_; rintro e w3 ⟨⟨go, rfl, hF⟩, hb3⟩; have hb3' : Below W1.heap.size W1 w3 := hb2'.trans (hb3.mono hb2'.size); have hB3 : Below w.heap.size w w3 := hB1.trans (hb3'.mono hB1.size); have P3 := (⟨(hb3'.cell (p := ⟨w.heap.size, 0, none⟩) hN).trans d1, (hb3'.cell (p := ⟨w.heap.size, 1, none⟩) hN).trans d2, (hb3'.cell (p := ⟨w.heap.size, 2, none⟩) hN).trans d3⟩ : w3.cell? ⟨w.heap.size, 0, none⟩ = some (.int .i64 x1) ∧ w3.cell? ⟨w.heap.size, 1, none⟩ = some (.int .i64 x2) ∧ w3.cell? ⟨w.heap.size, 2, none⟩ = some (.int .i64 x3)); have HF : Hid (FreshC w.heap.size w3.heap.size w3 go (ts.length + 1) (ts ++ [(x1, x2, x3)])) := hF.wide hB2.size (Nat.le_refl _); clear hF hb3))
    all_goals
      go_wp2
      refine bodyPost_ret (v := .tuple #[.slice go (ts.length + 1) (ts.length + 1), .int .i64 1]) (by simp [results, Try.results19, go_sem]) rfl ?_
      rw [HR.out]
      exact ⟨⟨go, ts.length + 1, by simp, HF.out⟩, hB3⟩
end Go.Proofs.Ytdfmmidokfcjfaa.Old
