
/- Whether a pool is good: the program, to its end. No conditions but those written. -/
import Derived.Test.YtmijibgfdhjbfaaPc
import Derived.BigQuiet
import Derived.BigRegion
import Derived.RegionTactic
import Derived.ChangeAlike
import Derived.Deep.RegionHeld3
namespace Go.Proofs.Ytmijibgfdhjbfaa
open Go.RowKit

set_option maxRecDepth 10000 in
set_option maxHeartbeats 4000000 in
theorem faultFits_is (s1 s2 : Int) (lo : Option Addr) (lc : Nat) (l : List Wo) (w : World) (x : Bool) (hl : l.length ≤ 1048576) (hz : kW.In w.heap.size w lo l) (hx : fitsB s2 l = x) :
    Calls Try.prog 29 #[.agg #[.int .i64 s1, .int .i64 s2, .slice lo l.length lc]] w fun e w' => e = .returned (.bool x) ∧ Below w.heap.size w w' := by
  have HX := hid hx
  have hB0 := below1 w (.cells #[.int .i64 s1, .int .i64 s2, .slice lo l.length lc] 29)
  have A0 := hid (Bx.new (w := w) (p := w.heap.size) [.int .i64 s1, .int .i64 s2, .slice lo l.length lc] 29 rfl)
  clear hx
  by_cases h0 : s2 = 0
  · have h0' : (s2 == 0) = true := by simpa using h0
    have HE : Hid (fitsB s2 l = (!hasL 4 l && !hasL 5 l)) := by rw [Hid, fitsB, if_pos h0]
    clear h0
    cases h4 : hasL 4 l
    · have H4 := hid h4
      obtain ⟨y, hy⟩ : ∃ y, hasL 5 l = y := ⟨_, rfl⟩
      have HY := hid hy
      have HV : Hid (x = !y) := by rw [Hid, ← HX.out, HE.out, h4, hy]; rfl
      clear h4 hy
      go_enter Try.func29, Try.ntmps29
      go_wp2_with fail
      refine (hasAt_is s1 s2 lo lc l 4 _ false hl (hz.later hB0) H4.out).mono ?_
      rintro e w1 ⟨rfl, hb1⟩
      have hB1 := hB0.trans (hb1.mono hB0.size)
      have A1 := hid (A0.out.later hb1)
      clear hb1 A0
      have a0 := A1.out.c 0 rfl
      have a1 := A1.out.c 1 rfl
      have a2 := A1.out.c 2 rfl

      go_wp2_with fail
      refine (hasAt_is s1 s2 lo lc l 5 _ y hl (hz.later hB1) HY.out).mono ?_
      rintro e w2 ⟨rfl, hb2⟩
      have hB2 := hB1.trans (hb2.mono hB1.size)
      clear hb2
      go_wp2
      go_ret
      exact ⟨ret_bool HV.out.symm, hB2⟩
    · have H4 := hid h4
      have HV : Hid (x = false) := by rw [Hid, ← HX.out, HE.out, h4]; rfl
      clear h4
      go_enter Try.func29, Try.ntmps29
      go_wp2_with fail
      refine (hasAt_is s1 s2 lo lc l 4 _ true hl (hz.later hB0) H4.out).mono ?_
      rintro e w1 ⟨rfl, hb1⟩
      have hB1 := hB0.trans (hb1.mono hB0.size)
      clear hb1
      go_wp2
      go_ret
      exact ⟨ret_bool HV.out.symm, hB1⟩
  · have h0' : (s2 == 0) = false := by simpa using h0
    have HE : Hid (fitsB s2 l = (tellsB s2 (atL 4 l) && !hasL 1 l)) := by rw [Hid, fitsB, if_neg h0]
    have hr : (atL 4 l).length ≤ 1048576 := Nat.le_trans (atL_le 4 l) hl
    obtain ⟨r, er⟩ : ∃ r, r = atL 4 l := ⟨_, rfl⟩
    rw [← er] at HE hr
    have HR := hid er
    clear h0 er
    cases h4 : tellsB s2 r
    · have H4 := hid h4
      have HV : Hid (x = false) := by rw [Hid, ← HX.out, HE.out, h4]; rfl
      clear h4
      go_enter Try.func29, Try.ntmps29
      go_wp2_with fail
      refine (worksAt_any s1 s2 lo lc l 4 _ hl (hz.later hB0)).mono ?_
      rintro e w1 ⟨⟨ro, rc, rfl, hF1⟩, hb1⟩
      rw [← HR.out] at hF1 ⊢
      have hB1 := hB0.trans (hb1.mono hB0.size)
      have A1 := hid (A0.out.later hb1)
      have F1 := hid hF1
      clear hb1 A0 hF1
      have a0 := A1.out.c 0 rfl
      have a1 := A1.out.c 1 rfl
      have a2 := A1.out.c 2 rfl

      go_wp2_with fail
      refine (containsFunc_is s1 s2 lo lc l ro rc r w.heap.size _ false hr F1.out.in A1.out H4.out).mono ?_
      rintro e w2 ⟨rfl, hb2⟩
      have hB2 := hB1.trans (hb2.mono hB1.size)
      clear hb2
      go_wp2
      go_ret
      exact ⟨ret_bool HV.out.symm, hB2⟩
    · have H4 := hid h4
      obtain ⟨y, hy⟩ : ∃ y, hasL 1 l = y := ⟨_, rfl⟩
      have HY := hid hy
      have HV : Hid (x = !y) := by rw [Hid, ← HX.out, HE.out, h4, hy]; rfl
      clear h4 hy
      go_enter Try.func29, Try.ntmps29
      go_wp2_with fail
      refine (worksAt_any s1 s2 lo lc l 4 _ hl (hz.later hB0)).mono ?_
      rintro e w1 ⟨⟨ro, rc, rfl, hF1⟩, hb1⟩
      rw [← HR.out] at hF1 ⊢
      have hB1 := hB0.trans (hb1.mono hB0.size)
      have A1 := hid (A0.out.later hb1)
      have F1 := hid hF1
      clear hb1 A0 hF1
      have a0 := A1.out.c 0 rfl
      have a1 := A1.out.c 1 rfl
      have a2 := A1.out.c 2 rfl

      go_wp2_with fail
      refine (containsFunc_is s1 s2 lo lc l ro rc r w.heap.size _ true hr F1.out.in A1.out H4.out).mono ?_
      rintro e w2 ⟨rfl, hb2⟩
      have hB2 := hB1.trans (hb2.mono hB1.size)
      have A2 := hid (A1.out.later hb2)
      clear hb2 A1 a0 a1 a2
      have a0 := A2.out.c 0 rfl
      have a1 := A2.out.c 1 rfl
      have a2 := A2.out.c 2 rfl

      go_wp2_with fail
      refine (hasAt_is s1 s2 lo lc l 1 _ y hl (hz.later hB2) HY.out).mono ?_
      rintro e w3 ⟨rfl, hb3⟩
      have hB3 := hB2.trans (hb3.mono hB2.size)
      clear hb3
      go_wp2
      go_ret
      exact ⟨ret_bool HV.out.symm, hB3⟩
set_option maxRecDepth 10000 in
set_option maxHeartbeats 8000000 in
theorem implGoodPool_is (s1 s2 : Int) (lo : Option Addr) (lc : Nat) (l : List Wo) (w : World) (x : Bool) (hl : l.length ≤ 1048576) (hz : kW.In w.heap.size w lo l) (hx : poolB s1 s2 l = x) :
    Calls Try.prog 10 #[.agg #[.int .i64 s1, .int .i64 s2, .slice lo l.length lc]] w fun e w' => e = .returned (.bool x) ∧ Below w.heap.size w w' := by
  have HX := hid hx
  have hB0 := below1 w (.cells #[.int .i64 s1, .int .i64 s2, .slice lo l.length lc] 29)
  have A0 := hid (Bx.new (w := w) (p := w.heap.size) [.int .i64 s1, .int .i64 s2, .slice lo l.length lc] 29 rfl)
  clear hx
  by_cases h1 : s1 < 1
  · have HV : Hid (x = false) := by rw [Hid, ← HX.out]; exact poolB_size (by simp [sizeB]; omega)
    have h1' : decide (s1 < 1) = true := by simpa using h1
    go_enter Try.func10, Try.ntmps10
    go_wp2
    go_ret
    exact ⟨ret_bool HV.out.symm, hB0⟩
  have h1' : decide (s1 < 1) = false := by simpa using h1
  by_cases h2 : 20 < s1
  · have HV : Hid (x = false) := by rw [Hid, ← HX.out]; exact poolB_size (by simp [sizeB]; omega)
    have h2' : decide (20 < s1) = true := by simpa using h2
    go_enter Try.func10, Try.ntmps10
    go_wp2
    go_ret
    exact ⟨ret_bool HV.out.symm, hB0⟩
  have h2' : decide (20 < s1) = false := by simpa using h2
  by_cases h3 : s2 = 0
  · subst h3
    have HS : Hid (sizeB s1 0 = true) := by simp [Hid, sizeB]; omega
    clear h1 h2
    by_cases h4 : 40 < l.length
    · have HV : Hid (x = false) := by rw [Hid, ← HX.out]; exact poolB_long h4
      have h4' : decide ((40 : Int) < (l.length : Int)) = true := by simp; omega
      go_enter Try.func10, Try.ntmps10
      go_wp2
      go_ret
      exact ⟨ret_bool HV.out.symm, hB0⟩
    have h4' : decide ((40 : Int) < (l.length : Int)) = false := by simp; omega
    cases h6 : worksB l
    · have H6 := hid h6
      have HV : Hid (x = false) := by rw [Hid, ← HX.out]; exact poolB_works h6
      clear h6
      go_enter Try.func10, Try.ntmps10
      go_wp2_with fail
      refine (goodWorks_is lo lc l _ false hl (hz.later hB0) H6.out).mono ?_
      rintro e w1 ⟨rfl, hb1⟩
      have hB1 := hB0.trans (hb1.mono hB0.size)
      go_wp2
      go_ret
      exact ⟨ret_bool HV.out.symm, hB1⟩
    have H6 := hid h6
    clear h6
    by_cases h7 : ((atL 2 l).length : Int) ≤ s1
    · obtain ⟨y, hy⟩ : ∃ y, fitsB 0 l = y := ⟨_, rfl⟩
      have HV : Hid (x = y) := by rw [Hid, ← HX.out, poolB_tail HS.out (by simp at h4'; omega) H6.out h7, hy]
      have HY := hid hy
      have h7' : decide (((atL 2 l).length : Int) ≤ s1) = true := by simpa using h7
      clear hy h7
      go_enter Try.func10, Try.ntmps10
      go_wp2_with fail
      refine (goodWorks_is lo lc l _ true hl (hz.later hB0) H6.out).mono ?_
      rintro e w1 ⟨rfl, hb1⟩
      have hB1 := hB0.trans (hb1.mono hB0.size)
      have A1 := hid (A0.out.later hb1)
      clear hb1 A0
      have a0 := A1.out.c 0 rfl
      have a1 := A1.out.c 1 rfl
      have a2 := A1.out.c 2 rfl
      go_wp2
      go_region_held3 (fun Y => Y.cell? ⟨w.heap.size, 0, none⟩ = some (.int .i64 s1) ∧ Y.cell? ⟨w.heap.size, 1, none⟩ = some (.int .i64 0) ∧ Y.cell? ⟨w.heap.size, 2, none⟩ = some (.slice lo l.length lc))
        (first | exact ⟨a0, a1, a2⟩ | exact P1 | exact P2)
        (first
          | (go_at_call 28; refine (worksAt_any s1 0 lo lc l 2 _ hl (by exact hz.later hB1.drew)).mono ?_; rintro e w2 ⟨⟨ro, rc, rfl, hF2⟩, hb2⟩; have hB2 : Below w.heap.size w w2 := hB1.drew.trans (hb2.mono hB1.size); have A2 := A1.out.drew.later hb2; have P1 := (⟨A2.c 0 rfl, A2.c 1 rfl, A2.c 2 rfl⟩ : w2.cell? ⟨w.heap.size, 0, none⟩ = some (.int .i64 s1) ∧ w2.cell? ⟨w.heap.size, 1, none⟩ = some (.int .i64 0) ∧ w2.cell? ⟨w.heap.size, 2, none⟩ = some (.slice lo l.length lc)); have hn2 := hid (atL_le 2 l); clear hF2 hb2)
          | (go_at_call 29; refine (faultFits_is s1 0 lo lc l _ y hl (by exact hz.later hB2) HY.out).mono ?_; rintro e w3 ⟨rfl, hb3⟩; have hB3 : Below w.heap.size w w3 := hB2.trans (hb3.mono hB2.size); have A3 := A2.later hb3; have P2 := (⟨A3.c 0 rfl, A3.c 1 rfl, A3.c 2 rfl⟩ : w3.cell? ⟨w.heap.size, 0, none⟩ = some (.int .i64 s1) ∧ w3.cell? ⟨w.heap.size, 1, none⟩ = some (.int .i64 0) ∧ w3.cell? ⟨w.heap.size, 2, none⟩ = some (.slice lo l.length lc)); clear hb3))
      all_goals
        go_wp2
        go_ret
        exact ⟨ret_bool HV.out.symm, hB3⟩
    · have HV : Hid (x = false) := by rw [Hid, ← HX.out]; exact poolB_runs h7
      have h7' : decide (((atL 2 l).length : Int) ≤ s1) = false := by simpa using h7
      clear h7
      go_enter Try.func10, Try.ntmps10
      go_wp2_with fail
      refine (goodWorks_is lo lc l _ true hl (hz.later hB0) H6.out).mono ?_
      rintro e w1 ⟨rfl, hb1⟩
      have hB1 := hB0.trans (hb1.mono hB0.size)
      have A1 := hid (A0.out.later hb1)
      clear hb1 A0
      have a0 := A1.out.c 0 rfl
      have a1 := A1.out.c 1 rfl
      have a2 := A1.out.c 2 rfl
      go_wp2
      first
      | go_region_with (first
          | (go_at_call 28; refine (worksAt_any s1 0 lo lc l 2 _ hl (by exact hz.later hB1.drew)).mono ?_; rintro e w2 ⟨⟨ro, rc, rfl, hF2⟩, hb2⟩; have hB2 : Below w.heap.size w w2 := hB1.drew.trans (hb2.mono hB1.size); have A2 := A1.out.drew.later hb2; have P1 := (⟨A2.c 0 rfl, A2.c 1 rfl, A2.c 2 rfl⟩ : w2.cell? ⟨w.heap.size, 0, none⟩ = some (.int .i64 s1) ∧ w2.cell? ⟨w.heap.size, 1, none⟩ = some (.int .i64 0) ∧ w2.cell? ⟨w.heap.size, 2, none⟩ = some (.slice lo l.length lc)); have hn2 := hid (atL_le 2 l); have b0 := A2.c 0 rfl; have b1 := A2.c 1 rfl; have b2 := A2.c 2 rfl; clear hF2 hb2 P1))
      | fail
      all_goals
        go_wp2
        go_ret
        exact ⟨ret_bool HV.out.symm, hB2⟩
  have h3' : (s2 != 0) = true := by simpa using h3
  cases h5 : faultB s2
  · have HV : Hid (x = false) := by rw [Hid, ← HX.out]; exact poolB_size (by simp [faultB] at h5; simp [sizeB]; omega)
    have H5 := hid h5
    clear h5 h1 h2 h3
    go_enter Try.func10, Try.ntmps10
    go_wp2_with fail
    refine (isFault_is s2 _ false H5.out).mono ?_
    rintro e w1 ⟨rfl, rfl⟩
    go_wp2
    go_ret
    exact ⟨ret_bool HV.out.symm, hB0⟩
  have H5 := hid h5
  have HS : Hid (sizeB s1 s2 = true) := by simp [faultB] at h5; simp [Hid, sizeB]; omega
  clear h5 h1 h2 h3
  by_cases h4 : 40 < l.length
  · have HV : Hid (x = false) := by rw [Hid, ← HX.out]; exact poolB_long h4
    have h4' : decide ((40 : Int) < (l.length : Int)) = true := by simp; omega
    go_enter Try.func10, Try.ntmps10
    go_wp2_with fail
    refine (isFault_is s2 _ true H5.out).mono ?_
    rintro e w1 ⟨rfl, rfl⟩
    go_wp2
    go_ret
    exact ⟨ret_bool HV.out.symm, hB0⟩
  have h4' : decide ((40 : Int) < (l.length : Int)) = false := by simp; omega
  cases h6 : worksB l
  · have H6 := hid h6
    have HV : Hid (x = false) := by rw [Hid, ← HX.out]; exact poolB_works h6
    clear h6
    go_enter Try.func10, Try.ntmps10
    go_wp2_with fail
    refine (isFault_is s2 _ true H5.out).mono ?_
    rintro e w0 ⟨rfl, hw0⟩
    rw [hw0]; clear hw0
    go_wp2_with fail
    refine (goodWorks_is lo lc l _ false hl (hz.later hB0) H6.out).mono ?_
    rintro e w1 ⟨rfl, hb1⟩
    have hB1 := hB0.trans (hb1.mono hB0.size)
    go_wp2
    go_ret
    exact ⟨ret_bool HV.out.symm, hB1⟩
  have H6 := hid h6
  clear h6
  by_cases h7 : ((atL 2 l).length : Int) ≤ s1
  · obtain ⟨y, hy⟩ : ∃ y, fitsB s2 l = y := ⟨_, rfl⟩
    have HV : Hid (x = y) := by rw [Hid, ← HX.out, poolB_tail HS.out (by simp at h4'; omega) H6.out h7, hy]
    have HY := hid hy
    have h7' : decide (((atL 2 l).length : Int) ≤ s1) = true := by simpa using h7
    clear hy h7
    go_enter Try.func10, Try.ntmps10
    go_wp2_with fail
    refine (isFault_is s2 _ true H5.out).mono ?_
    rintro e w0 ⟨rfl, hw0⟩
    rw [hw0]; clear hw0
    go_wp2_with fail
    refine (goodWorks_is lo lc l _ true hl (hz.later hB0) H6.out).mono ?_
    rintro e w1 ⟨rfl, hb1⟩
    have hB1 := hB0.trans (hb1.mono hB0.size)
    have A1 := hid (A0.out.later hb1)
    clear hb1 A0
    have a0 := A1.out.c 0 rfl
    have a1 := A1.out.c 1 rfl
    have a2 := A1.out.c 2 rfl
    go_wp2
    go_region_held3 (fun Y => Y.cell? ⟨w.heap.size, 0, none⟩ = some (.int .i64 s1) ∧ Y.cell? ⟨w.heap.size, 1, none⟩ = some (.int .i64 s2) ∧ Y.cell? ⟨w.heap.size, 2, none⟩ = some (.slice lo l.length lc))
      (first | exact ⟨a0, a1, a2⟩ | exact P1 | exact P2)
      (first
        | (go_at_call 28; refine (worksAt_any s1 s2 lo lc l 2 _ hl (by exact hz.later hB1.drew)).mono ?_; rintro e w2 ⟨⟨ro, rc, rfl, hF2⟩, hb2⟩; have hB2 : Below w.heap.size w w2 := hB1.drew.trans (hb2.mono hB1.size); have A2 := A1.out.drew.later hb2; have P1 := (⟨A2.c 0 rfl, A2.c 1 rfl, A2.c 2 rfl⟩ : w2.cell? ⟨w.heap.size, 0, none⟩ = some (.int .i64 s1) ∧ w2.cell? ⟨w.heap.size, 1, none⟩ = some (.int .i64 s2) ∧ w2.cell? ⟨w.heap.size, 2, none⟩ = some (.slice lo l.length lc)); have hn2 := hid (atL_le 2 l); clear hF2 hb2)
        | (go_at_call 29; refine (faultFits_is s1 s2 lo lc l _ y hl (by exact hz.later hB2) HY.out).mono ?_; rintro e w3 ⟨rfl, hb3⟩; have hB3 : Below w.heap.size w w3 := hB2.trans (hb3.mono hB2.size); have A3 := A2.later hb3; have P2 := (⟨A3.c 0 rfl, A3.c 1 rfl, A3.c 2 rfl⟩ : w3.cell? ⟨w.heap.size, 0, none⟩ = some (.int .i64 s1) ∧ w3.cell? ⟨w.heap.size, 1, none⟩ = some (.int .i64 s2) ∧ w3.cell? ⟨w.heap.size, 2, none⟩ = some (.slice lo l.length lc)); clear hb3))
    all_goals
      go_wp2
      go_ret
      exact ⟨ret_bool HV.out.symm, hB3⟩
  · have HV : Hid (x = false) := by rw [Hid, ← HX.out]; exact poolB_runs h7
    have h7' : decide (((atL 2 l).length : Int) ≤ s1) = false := by simpa using h7
    clear h7
    go_enter Try.func10, Try.ntmps10
    go_wp2_with fail
    refine (isFault_is s2 _ true H5.out).mono ?_
    rintro e w0 ⟨rfl, hw0⟩
    rw [hw0]; clear hw0
    go_wp2_with fail
    refine (goodWorks_is lo lc l _ true hl (hz.later hB0) H6.out).mono ?_
    rintro e w1 ⟨rfl, hb1⟩
    have hB1 := hB0.trans (hb1.mono hB0.size)
    have A1 := hid (A0.out.later hb1)
    clear hb1 A0
    have a0 := A1.out.c 0 rfl
    have a1 := A1.out.c 1 rfl
    have a2 := A1.out.c 2 rfl
    go_wp2
    first
    | go_region_with (first
        | (go_at_call 28; refine (worksAt_any s1 s2 lo lc l 2 _ hl (by exact hz.later hB1.drew)).mono ?_; rintro e w2 ⟨⟨ro, rc, rfl, hF2⟩, hb2⟩; have hB2 : Below w.heap.size w w2 := hB1.drew.trans (hb2.mono hB1.size); have A2 := A1.out.drew.later hb2; have P1 := (⟨A2.c 0 rfl, A2.c 1 rfl, A2.c 2 rfl⟩ : w2.cell? ⟨w.heap.size, 0, none⟩ = some (.int .i64 s1) ∧ w2.cell? ⟨w.heap.size, 1, none⟩ = some (.int .i64 s2) ∧ w2.cell? ⟨w.heap.size, 2, none⟩ = some (.slice lo l.length lc)); have hn2 := hid (atL_le 2 l); have b0 := A2.c 0 rfl; have b1 := A2.c 1 rfl; have b2 := A2.c 2 rfl; clear hF2 hb2 P1))
    | fail
    all_goals
      go_wp2
      go_ret
      exact ⟨ret_bool HV.out.symm, hB2⟩
end Go.Proofs.Ytmijibgfdhjbfaa
