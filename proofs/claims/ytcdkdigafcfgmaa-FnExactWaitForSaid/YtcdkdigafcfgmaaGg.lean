/- WaitFor: the specification. No conditions but those written. -/
import Derived.Test.YtcdkdigafcfgmaaGf
import Derived.Test.YtcdkdigafcfgmaaGe
namespace Go.Proofs.Ytcdkdigafcfgmaa
open Go.RowKit

set_option maxHeartbeats 4000000 in
theorem specWait_any (s1 : Int) (ao : Option Addr) (cap : Nat) (q : List Int) (iv : Int) (w : World) (hl : q.length ≤ 1048576) (hc : q.length ≤ cap) (hno : ao = none → cap = 0) (hz : kI.In w.heap.size w ao q) :
    Calls Try.prog 26 #[.agg #[.int .i64 s1, .slice ao q.length cap], .int .i64 iv] w fun e w' => AnsG w (waitR s1 q iv) e w' := by
  obtain ⟨W2, hW2⟩ : ∃ W2, W2 = (w.alloc (.cells #[.int .i64 s1, .slice ao q.length cap] 27)).alloc (.cells #[.int .i64 0, .slice none 0 0] 27) := ⟨_, rfl⟩
  have hB2 : Below w.heap.size w W2 := by rw [hW2]; exact below2 _ _ _
  have A2 : Bx W2 w.heap.size [.int .i64 s1, .slice ao q.length cap] := by rw [hW2]; exact (Bx.new [.int .i64 s1, .slice ao q.length cap] _ rfl).alloc _
  have R2 : Bx W2 (w.heap.size + 1) [.int .i64 0, .slice none 0 0] := by rw [hW2]; exact Bx.new [.int .i64 0, .slice none 0 0] _ (by simp)
  have HW : Hid (W2 = (w.alloc (.cells #[.int .i64 s1, .slice ao q.length cap] 27)).alloc (.cells #[.int .i64 0, .slice none 0 0] 27)) := hW2
  have HS : Hid (W2.heap.size = w.heap.size + 1 + 1) := by rw [hW2]; simp [Hid]
  clear hW2
  cases hg : groupB s1 q
  · have HG : Hid (groupB s1 q = false) := hg
    have HR : Hid (waitR s1 q iv = (0, [], 2)) := waitR_bad hg
    clear hg
    go_enter Try.func26, Try.ntmps26
    go_wp2_with fail
    rw [← HW.out]
    refine (specGood_is s1 ao cap q W2 false hl hc (hz.later hB2) HG.out).mono ?_
    rintro e w1 ⟨rfl, hb1⟩
    have hB1 := hB2.trans (hb1.mono hB2.size)
    have A1 := A2.later hb1
    have R1 := R2.later hb1
    have hs1 : w.heap.size + 1 + 1 ≤ w1.heap.size := by have := hb1.size; rw [HS.out] at this; exact this
    clear hb1 A2 R2
    have r0 := R1.c 0 rfl
    have rf0 := R1.f 0 rfl
    have r1 := R1.c 1 rfl
    have rf1 := R1.f 1 rfl
    go_wp2
    refine bodyPost_ret (v := .tuple #[.agg #[.int .i64 0, .slice none 0 0], .int .i64 2]) (by simp [results, Try.results26, go_sem, r0, r1]) rfl ?_
    rw [HR.out]
    exact ⟨⟨none, 0, rfl, .inl rfl⟩, ((hB1.setCell (p := ⟨w.heap.size + 1, 0, none⟩) (by simp) _).setCell (p := ⟨w.heap.size + 1, 1, none⟩) (by simp) _)⟩
  have HG : Hid (groupB s1 q = true) := hg
  obtain ⟨g1, g2, g3, g4⟩ := groupB_good hg
  have hq30 := lineB_len g3
  clear g3 g4
  cases hi : taskB iv
  · have HI : Hid (taskB iv = false) := hi
    have HR : Hid (waitR s1 q iv = (0, [], 2)) := waitR_task hi
    clear hg hi
    go_enter Try.func26, Try.ntmps26
    go_wp2_with fail
    rw [← HW.out]
    refine (specGood_is s1 ao cap q W2 true hl hc (hz.later hB2) HG.out).mono ?_
    rintro e w1 ⟨rfl, hb1⟩
    have hB1 := hB2.trans (hb1.mono hB2.size)
    have A1 := A2.later hb1
    have R1 := R2.later hb1
    have hs1 : w.heap.size + 1 + 1 ≤ w1.heap.size := by have := hb1.size; rw [HS.out] at this; exact this
    clear hb1 A2 R2
    go_wp2_with fail
    refine (l3Task_is iv _ false HI.out).mono ?_
    rintro e w1 ⟨rfl, rfl⟩
    have r0 := R1.c 0 rfl
    have rf0 := R1.f 0 rfl
    have r1 := R1.c 1 rfl
    have rf1 := R1.f 1 rfl
    go_wp2
    refine bodyPost_ret (v := .tuple #[.agg #[.int .i64 0, .slice none 0 0], .int .i64 2]) (by simp [results, Try.results26, go_sem, r0, r1]) rfl ?_
    rw [HR.out]
    exact ⟨⟨none, 0, rfl, .inl rfl⟩, ((hB1.setCell (p := ⟨w.heap.size + 1, 0, none⟩) (by simp) _).setCell (p := ⟨w.heap.size + 1, 1, none⟩) (by simp) _)⟩
  have HI : Hid (taskB iv = true) := hi
  cases hm : hasB q iv
  case true =>
    have HM : Hid (hasB q iv = true) := hm
    have HR : Hid (waitR s1 q iv = (s1, q, 4)) := waitR_busy hg hi hm
    clear hg hi hm
    go_enter Try.func26, Try.ntmps26
    go_wp2_with fail
    rw [← HW.out]
    refine (specGood_is s1 ao cap q W2 true hl hc (hz.later hB2) HG.out).mono ?_
    rintro e w1 ⟨rfl, hb1⟩
    have hB1 := hB2.trans (hb1.mono hB2.size)
    have A1 := A2.later hb1
    have R1 := R2.later hb1
    have hs1 : w.heap.size + 1 + 1 ≤ w1.heap.size := by have := hb1.size; rw [HS.out] at this; exact this
    clear hb1 A2 R2
    go_wp2_with fail
    refine (l3Task_is iv _ true HI.out).mono ?_
    rintro e w1 ⟨rfl, rfl⟩
    have HE : Hid (kI.Own (w.heap.size + 1 + 1) (w1.alloc (.cells #[] 3)) (.slice (some ⟨w1.heap.size, 0, none⟩) 0 0) []) := Kind.Own.new kI _ w1 hs1
    have HZ : Hid (kI.In w1.heap.size (w1.alloc (.cells #[] 3)) ao q) := (hz.later hB1).below (below1 _ _)
    have hA1 : w.heap.size < w1.heap.size := A1.size
    have a0 := A1.c 0 rfl
    have af0 := A1.f 0 rfl
    have a1 := A1.c 1 rfl
    have af1 := A1.f 1 rfl
    go_wp2_with (at_builtin; refine Kind.app kI_ok (w1.alloc (.cells #[] 3)) rfl (.tmp 15) (.tmp 17) rfl (w.heap.size + 1 + 1) (.slice (some ⟨w1.heap.size, 0, none⟩) 0 0) [] rfl HE.out (by simp; omega) ao q q.length cap rfl rfl hno _ HZ.out (by simp; omega) ?_; intro v3 w3 hO3 hB3 hG3 hn3; obtain ⟨g, c, rfl, hF3⟩ := hO3.some (hn3 some_ne); rw [List.nil_append] at hF3 hO3; have HOw := hid hO3; have A3 := (A1.alloc (.cells #[] 3)).below hB3 (by omega); have R3 := (R1.alloc (.cells #[] 3)).below hB3 (by omega); have hB4 : Below w.heap.size w w3 := hB1.trans (((below1 w1 (.cells #[] 3)).mono hB1.size).trans (hB3.mono (by omega))); have hs3 : w.heap.size + 1 + 1 ≤ w3.heap.size := (by have := hB3.size; simp at this; omega); have HF : Hid (kI.Fresh (w.heap.size + 1 + 1) w3.heap.size w3 (some ⟨g, 0, none⟩) c q) := hF3; clear hO3 hB3 hG3 hn3 hF3 HE HZ a0 a1 af0 af1 A1 R1; have a0 := A3.c 0 rfl; have a1 := A3.c 1 rfl; have af0 := A3.f 0 rfl; have af1 := A3.f 1 rfl; have r0 := R3.c 0 rfl; have r1 := R3.c 1 rfl; have rf0 := R3.f 0 rfl; have rf1 := R3.f 1 rfl)
    have HZ4 : Hid (kI.In w3.heap.size (w3.setCell ⟨w.heap.size, 1, none⟩ (.slice (some ⟨g, 0, none⟩) q.length c)) (some ⟨g, 0, none⟩) q) := (HF.out.setBelow (a := ⟨w.heap.size, 1, none⟩) (by simp; omega) _).in.up (by simp)
    refine (l1Has_is _ (some ⟨g, 0, none⟩) c q iv _ true hl HZ4.out HM.out).mono ?_
    rintro e w4 ⟨rfl, rfl⟩
    go_wp2
    refine bodyPost_ret (v := .tuple #[.agg #[.int .i64 s1, .slice (some ⟨g, 0, none⟩) q.length c], .int .i64 4]) (by simp [results, Try.results26, go_sem, r0, r1]) rfl ?_
    rw [HR.out]
    exact ⟨⟨_, c, rfl, (((HF.out.setBelow (a := ⟨w.heap.size, 1, none⟩) (by simp; omega) _).setBelow (a := ⟨w.heap.size + 1, 0, none⟩) (by simp) _).setBelow (a := ⟨w.heap.size + 1, 1, none⟩) (by simp) _).wide (by omega) (by simp)⟩, (((hB4.setCell (p := ⟨w.heap.size, 1, none⟩) (by simp) _).setCell (p := ⟨w.heap.size + 1, 0, none⟩) (by simp) _).setCell (p := ⟨w.heap.size + 1, 1, none⟩) (by simp) _)⟩
  have HM : Hid (hasB q iv = false) := hm
  by_cases h0 : s1 = 0
  · have h0' : (s1 == 0) = true := by simpa using h0
    have HR : Hid (waitR s1 q iv = (s1, q, 0)) := waitR_done hg hi hm h0
    clear hg hi hm h0
    go_enter Try.func26, Try.ntmps26
    go_wp2_with fail
    rw [← HW.out]
    refine (specGood_is s1 ao cap q W2 true hl hc (hz.later hB2) HG.out).mono ?_
    rintro e w1 ⟨rfl, hb1⟩
    have hB1 := hB2.trans (hb1.mono hB2.size)
    have A1 := A2.later hb1
    have R1 := R2.later hb1
    have hs1 : w.heap.size + 1 + 1 ≤ w1.heap.size := by have := hb1.size; rw [HS.out] at this; exact this
    clear hb1 A2 R2
    go_wp2_with fail
    refine (l3Task_is iv _ true HI.out).mono ?_
    rintro e w1 ⟨rfl, rfl⟩
    have HE : Hid (kI.Own (w.heap.size + 1 + 1) (w1.alloc (.cells #[] 3)) (.slice (some ⟨w1.heap.size, 0, none⟩) 0 0) []) := Kind.Own.new kI _ w1 hs1
    have HZ : Hid (kI.In w1.heap.size (w1.alloc (.cells #[] 3)) ao q) := (hz.later hB1).below (below1 _ _)
    have hA1 : w.heap.size < w1.heap.size := A1.size
    have a0 := A1.c 0 rfl
    have af0 := A1.f 0 rfl
    have a1 := A1.c 1 rfl
    have af1 := A1.f 1 rfl
    go_wp2_with (at_builtin; refine Kind.app kI_ok (w1.alloc (.cells #[] 3)) rfl (.tmp 15) (.tmp 17) rfl (w.heap.size + 1 + 1) (.slice (some ⟨w1.heap.size, 0, none⟩) 0 0) [] rfl HE.out (by simp; omega) ao q q.length cap rfl rfl hno _ HZ.out (by simp; omega) ?_; intro v3 w3 hO3 hB3 hG3 hn3; obtain ⟨g, c, rfl, hF3⟩ := hO3.some (hn3 some_ne); rw [List.nil_append] at hF3 hO3; have HOw := hid hO3; have A3 := (A1.alloc (.cells #[] 3)).below hB3 (by omega); have R3 := (R1.alloc (.cells #[] 3)).below hB3 (by omega); have hB4 : Below w.heap.size w w3 := hB1.trans (((below1 w1 (.cells #[] 3)).mono hB1.size).trans (hB3.mono (by omega))); have hs3 : w.heap.size + 1 + 1 ≤ w3.heap.size := (by have := hB3.size; simp at this; omega); have HF : Hid (kI.Fresh (w.heap.size + 1 + 1) w3.heap.size w3 (some ⟨g, 0, none⟩) c q) := hF3; clear hO3 hB3 hG3 hn3 hF3 HE HZ a0 a1 af0 af1 A1 R1; have a0 := A3.c 0 rfl; have a1 := A3.c 1 rfl; have af0 := A3.f 0 rfl; have af1 := A3.f 1 rfl; have r0 := R3.c 0 rfl; have r1 := R3.c 1 rfl; have rf0 := R3.f 0 rfl; have rf1 := R3.f 1 rfl)
    have HZ4 : Hid (kI.In w3.heap.size (w3.setCell ⟨w.heap.size, 1, none⟩ (.slice (some ⟨g, 0, none⟩) q.length c)) (some ⟨g, 0, none⟩) q) := (HF.out.setBelow (a := ⟨w.heap.size, 1, none⟩) (by simp; omega) _).in.up (by simp)
    refine (l1Has_is _ (some ⟨g, 0, none⟩) c q iv _ false hl HZ4.out HM.out).mono ?_
    rintro e w4 ⟨rfl, rfl⟩
    go_wp2
    refine bodyPost_ret (v := .tuple #[.agg #[.int .i64 s1, .slice (some ⟨g, 0, none⟩) q.length c], .int .i64 0]) (by simp [results, Try.results26, go_sem, r0, r1]) rfl ?_
    rw [HR.out]
    exact ⟨⟨_, c, rfl, (((HF.out.setBelow (a := ⟨w.heap.size, 1, none⟩) (by simp; omega) _).setBelow (a := ⟨w.heap.size + 1, 0, none⟩) (by simp) _).setBelow (a := ⟨w.heap.size + 1, 1, none⟩) (by simp) _).wide (by omega) (by simp)⟩, (((hB4.setCell (p := ⟨w.heap.size, 1, none⟩) (by simp) _).setCell (p := ⟨w.heap.size + 1, 0, none⟩) (by simp) _).setCell (p := ⟨w.heap.size + 1, 1, none⟩) (by simp) _)⟩
  · have h0' : (s1 == 0) = false := by simpa using h0
    have HR : Hid (waitR s1 q iv = (s1, q ++ [iv], 1)) := waitR_waits hg hi hm h0
    clear hg hi hm h0
    go_enter Try.func26, Try.ntmps26
    go_wp2_with fail
    rw [← HW.out]
    refine (specGood_is s1 ao cap q W2 true hl hc (hz.later hB2) HG.out).mono ?_
    rintro e w1 ⟨rfl, hb1⟩
    have hB1 := hB2.trans (hb1.mono hB2.size)
    have A1 := A2.later hb1
    have R1 := R2.later hb1
    have hs1 : w.heap.size + 1 + 1 ≤ w1.heap.size := by have := hb1.size; rw [HS.out] at this; exact this
    clear hb1 A2 R2
    go_wp2_with fail
    refine (l3Task_is iv _ true HI.out).mono ?_
    rintro e w1 ⟨rfl, rfl⟩
    have HE : Hid (kI.Own (w.heap.size + 1 + 1) (w1.alloc (.cells #[] 3)) (.slice (some ⟨w1.heap.size, 0, none⟩) 0 0) []) := Kind.Own.new kI _ w1 hs1
    have HZ : Hid (kI.In w1.heap.size (w1.alloc (.cells #[] 3)) ao q) := (hz.later hB1).below (below1 _ _)
    have hA1 : w.heap.size < w1.heap.size := A1.size
    have a0 := A1.c 0 rfl
    have af0 := A1.f 0 rfl
    have a1 := A1.c 1 rfl
    have af1 := A1.f 1 rfl
    go_wp2_with (at_builtin; refine Kind.app kI_ok (w1.alloc (.cells #[] 3)) rfl (.tmp 15) (.tmp 17) rfl (w.heap.size + 1 + 1) (.slice (some ⟨w1.heap.size, 0, none⟩) 0 0) [] rfl HE.out (by simp; omega) ao q q.length cap rfl rfl hno _ HZ.out (by simp; omega) ?_; intro v3 w3 hO3 hB3 hG3 hn3; obtain ⟨g, c, rfl, hF3⟩ := hO3.some (hn3 some_ne); rw [List.nil_append] at hF3 hO3; have HOw := hid hO3; have A3 := (A1.alloc (.cells #[] 3)).below hB3 (by omega); have R3 := (R1.alloc (.cells #[] 3)).below hB3 (by omega); have hB4 : Below w.heap.size w w3 := hB1.trans (((below1 w1 (.cells #[] 3)).mono hB1.size).trans (hB3.mono (by omega))); have hs3 : w.heap.size + 1 + 1 ≤ w3.heap.size := (by have := hB3.size; simp at this; omega); have HF : Hid (kI.Fresh (w.heap.size + 1 + 1) w3.heap.size w3 (some ⟨g, 0, none⟩) c q) := hF3; clear hO3 hB3 hG3 hn3 hF3 HE HZ a0 a1 af0 af1 A1 R1; have a0 := A3.c 0 rfl; have a1 := A3.c 1 rfl; have af0 := A3.f 0 rfl; have af1 := A3.f 1 rfl; have r0 := R3.c 0 rfl; have r1 := R3.c 1 rfl; have rf0 := R3.f 0 rfl; have rf1 := R3.f 1 rfl)
    have HZ4 : Hid (kI.In w3.heap.size (w3.setCell ⟨w.heap.size, 1, none⟩ (.slice (some ⟨g, 0, none⟩) q.length c)) (some ⟨g, 0, none⟩) q) := (HF.out.setBelow (a := ⟨w.heap.size, 1, none⟩) (by simp; omega) _).in.up (by simp)
    refine (l1Has_is _ (some ⟨g, 0, none⟩) c q iv _ false hl HZ4.out HM.out).mono ?_
    rintro e w4 ⟨rfl, rfl⟩
    obtain ⟨V, hV⟩ : ∃ V, V = (w3.setCell ⟨w.heap.size, 1, none⟩ (.slice (some ⟨g, 0, none⟩) q.length c)) := ⟨_, rfl⟩
    have HV : Hid (V = (w3.setCell ⟨w.heap.size, 1, none⟩ (.slice (some ⟨g, 0, none⟩) q.length c))) := hV
    have A5 : Bx V w.heap.size [.int .i64 s1, .slice (some ⟨g, 0, none⟩) q.length c] := by rw [hV]; exact A3.set 1 _
    have R5 : Bx V (w.heap.size + 1) [.int .i64 0, .slice none 0 0] := by rw [hV]; exact R3.other (by simp) _
    have F5 : Hid (kI.Fresh (w.heap.size + 1 + 1) V.heap.size V (some ⟨g, 0, none⟩) c q) := by rw [hV]; exact (HF.out.setBelow (a := ⟨w.heap.size, 1, none⟩) (by simp; omega) _).wide (Nat.le_refl _) (by simp)
    have hBV : Below w.heap.size w V := by rw [hV]; exact (hB4.setCell (p := ⟨w.heap.size, 1, none⟩) (by simp) _)
    have hsV : w.heap.size + 1 + 1 ≤ V.heap.size := by rw [hV]; simpa using hs3
    have HO : Hid (kI.Own (w.heap.size + 1 + 1) (V.alloc (.cells #[.int .i64 iv] 3)) (.slice (some ⟨g, 0, none⟩) q.length c) q) := by
      have h : kI.Own (w.heap.size + 1 + 1) V (.slice (some ⟨g, 0, none⟩) q.length c) q := by rw [hV]; exact HOw.out.setBelow (by simp; omega) _
      exact h.below (below1 _ _)
    have HN : Hid (kI.In (V.heap.size + 1) (V.alloc (.cells #[.int .i64 iv] 3)) (some ⟨V.heap.size, 0, none⟩) [iv]) := int_one (by omega) (by simp)
    rw [← hV]
    clear hV hB4 A3 R3 a0 a1 af0 af1 r0 r1 rf0 rf1 HF HZ4
    have hA5 : w.heap.size < V.heap.size := A5.size
    have a0 := A5.c 0 rfl
    have af0 := A5.f 0 rfl
    have a1 := A5.c 1 rfl
    have af1 := A5.f 1 rfl
    have r0 := R5.c 0 rfl
    have rf0 := R5.f 0 rfl
    have r1 := R5.c 1 rfl
    have rf1 := R5.f 1 rfl
    go_wp2_with (at_builtin; refine Kind.app kI_ok (V.alloc (.cells #[.int .i64 iv] 3)) rfl (.tmp 30) (.tmp 32) rfl (w.heap.size + 1 + 1) (.slice (some ⟨g, 0, none⟩) q.length c) q rfl HO.out (by simp; omega) (some ⟨V.heap.size, 0, none⟩) [iv] 1 1 rfl rfl (by simp) _ HN.out (by simp; omega) ?_; intro v6 w6 hO6 hB6 hG6 hn6; obtain ⟨g', c', rfl, hF6⟩ := hO6.some (hn6 some_ne); have A6 := (A5.alloc (.cells #[.int .i64 iv] 3)).below hB6 (by omega); have R6 := (R5.alloc (.cells #[.int .i64 iv] 3)).below hB6 (by omega); have hB7 : Below w.heap.size w w6 := hBV.trans (((below1 V (.cells #[.int .i64 iv] 3)).mono hBV.size).trans (hB6.mono (by omega))); have hs6 : w.heap.size + 1 + 1 ≤ w6.heap.size := (by have := hB6.size; simp at this; omega); have HF6 : Hid (kI.Fresh (w.heap.size + 1 + 1) w6.heap.size w6 (some ⟨g', 0, none⟩) c' (q ++ [iv])) := hF6; clear hO6 hB6 hG6 hn6 hF6 HO HN a0 a1 af0 af1 r0 r1 rf0 rf1 A5 R5; have a0 := A6.c 0 rfl; have a1 := A6.c 1 rfl; have af0 := A6.f 0 rfl; have af1 := A6.f 1 rfl; have r0 := R6.c 0 rfl; have r1 := R6.c 1 rfl; have rf0 := R6.f 0 rfl; have rf1 := R6.f 1 rfl)
    refine bodyPost_ret (v := .tuple #[.agg #[.int .i64 s1, .slice (some ⟨g', 0, none⟩) (q ++ [iv]).length c'], .int .i64 1]) (by simp [results, Try.results26, go_sem, r0, r1]) rfl ?_
    rw [HR.out]
    exact ⟨⟨_, c', rfl, (((HF6.out.setBelow (a := ⟨w.heap.size, 1, none⟩) (by simp; omega) _).setBelow (a := ⟨w.heap.size + 1, 0, none⟩) (by simp) _).setBelow (a := ⟨w.heap.size + 1, 1, none⟩) (by simp) _).wide (by omega) (by simp)⟩, (((hB7.setCell (p := ⟨w.heap.size, 1, none⟩) (by simp) _).setCell (p := ⟨w.heap.size + 1, 0, none⟩) (by simp) _).setCell (p := ⟨w.heap.size + 1, 1, none⟩) (by simp) _)⟩
end Go.Proofs.Ytcdkdigafcfgmaa
