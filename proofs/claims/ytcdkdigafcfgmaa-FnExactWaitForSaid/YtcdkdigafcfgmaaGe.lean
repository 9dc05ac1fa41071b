/- AddTo: the specification. No conditions but those written. -/
import Derived.Test.YtcdkdigafcfgmaaGc
namespace Go.Proofs.Ytcdkdigafcfgmaa
open Go.RowKit

set_option maxHeartbeats 4000000 in
theorem specAdd_any (s1 : Int) (ao : Option Addr) (cap : Nat) (q : List Int) (iv : Int) (w : World) (hl : q.length ≤ 1048576) (hc : q.length ≤ cap) (hno : ao = none → cap = 0) (hz : kI.In w.heap.size w ao q) :
    Calls Try.prog 19 #[.agg #[.int .i64 s1, .slice ao q.length cap], .int .i64 iv] w fun e w' => AnsA w (addR s1 q iv) e w' := by
  obtain ⟨W2, hW2⟩ : ∃ W2, W2 = (w.alloc (.cells #[.int .i64 s1, .slice ao q.length cap] 27)).alloc (.cells #[.int .i64 0, .slice none 0 0] 27) := ⟨_, rfl⟩
  have hB2 : Below w.heap.size w W2 := by rw [hW2]; exact below2 _ _ _
  have A2 : Bx W2 w.heap.size [.int .i64 s1, .slice ao q.length cap] := by rw [hW2]; exact (Bx.new [.int .i64 s1, .slice ao q.length cap] _ rfl).alloc _
  have R2 : Bx W2 (w.heap.size + 1) [.int .i64 0, .slice none 0 0] := by rw [hW2]; exact Bx.new [.int .i64 0, .slice none 0 0] _ (by simp)
  have HW : Hid (W2 = (w.alloc (.cells #[.int .i64 s1, .slice ao q.length cap] 27)).alloc (.cells #[.int .i64 0, .slice none 0 0] 27)) := hW2
  have HS : Hid (W2.heap.size = w.heap.size + 1 + 1) := by rw [hW2]; simp [Hid]
  clear hW2
  cases hg : groupB s1 q
  · have HG : Hid (groupB s1 q = false) := hg
    have HR : Hid (addR s1 q iv = (0, [], [], 2)) := addR_bad hg
    clear hg
    go_enter Try.func19, Try.ntmps19
    go_wp2_with fail
    rw [← HW.out]
    refine (specGood_is s1 ao cap q W2 false hl hc (hz.later hB2) HG.out).mono ?_
    rintro e w1 ⟨rfl, hb1⟩
    have hB1 := hB2.trans (hb1.mono hB2.size)
    have A1 := A2.later hb1
    have R1 := R2.later hb1
    have hs1 : w.heap.size + 1 + 1 ≤ w1.heap.size := by have := hb1.size; rw [HS.out] at this; exact this
    clear hb1 A2 R2
    have r0 := R1.c 0 rfl
    have rf0 := R1.f 0 rfl
    have r1 := R1.c 1 rfl
    have rf1 := R1.f 1 rfl
    go_wp2
    refine bodyPost_ret (v := .tuple #[.agg #[.int .i64 0, .slice none 0 0], .slice none 0 0, .int .i64 2]) (by simp [results, Try.results19, go_sem, r0, r1]) rfl ?_
    rw [HR.out]
    exact ⟨⟨none, 0, none, 0, rfl, .inl rfl, .inl rfl, .inl rfl⟩, ((hB1.setCell (p := ⟨w.heap.size + 1, 0, none⟩) (by simp) _).setCell (p := ⟨w.heap.size + 1, 1, none⟩) (by simp) _)⟩
  have HG : Hid (groupB s1 q = true) := hg
  obtain ⟨g1, g2, g3, g4⟩ := groupB_good hg
  clear g3 g4
  cases hi : (decide (-1000000 ≤ iv) && decide (iv ≤ 1000000))
  · have HI : Hid ((decide (-1000000 ≤ iv) && decide (iv ≤ 1000000)) = false) := hi
    have HR : Hid (addR s1 q iv = (0, [], [], 2)) := addR_by (by simp at hi; omega)
    clear hg hi
    go_enter Try.func19, Try.ntmps19
    go_wp2_with fail
    rw [← HW.out]
    refine (specGood_is s1 ao cap q W2 true hl hc (hz.later hB2) HG.out).mono ?_
    rintro e w1 ⟨rfl, hb1⟩
    have hB1 := hB2.trans (hb1.mono hB2.size)
    have A1 := A2.later hb1
    have R1 := R2.later hb1
    have hs1 : w.heap.size + 1 + 1 ≤ w1.heap.size := by have := hb1.size; rw [HS.out] at this; exact this
    clear hb1 A2 R2
    go_wp2_with fail
    refine (l1In_is iv (-1000000) 1000000 _ false HI.out).mono ?_
    rintro e w1 ⟨rfl, rfl⟩
    have r0 := R1.c 0 rfl
    have rf0 := R1.f 0 rfl
    have r1 := R1.c 1 rfl
    have rf1 := R1.f 1 rfl
    go_wp2
    refine bodyPost_ret (v := .tuple #[.agg #[.int .i64 0, .slice none 0 0], .slice none 0 0, .int .i64 2]) (by simp [results, Try.results19, go_sem, r0, r1]) rfl ?_
    rw [HR.out]
    exact ⟨⟨none, 0, none, 0, rfl, .inl rfl, .inl rfl, .inl rfl⟩, ((hB1.setCell (p := ⟨w.heap.size + 1, 0, none⟩) (by simp) _).setCell (p := ⟨w.heap.size + 1, 1, none⟩) (by simp) _)⟩
  have HI : Hid ((decide (-1000000 ≤ iv) && decide (iv ≤ 1000000)) = true) := hi
  have hbb : -1000000 ≤ iv ∧ iv ≤ 1000000 := by simp at hi; omega
  clear hi
  cases hk : (decide (0 ≤ s1 + iv) && decide (s1 + iv ≤ 1000000))
  · have HK : Hid ((decide (0 ≤ s1 + iv) && decide (s1 + iv ≤ 1000000)) = false) := hk
    have HR : Hid (addR s1 q iv = (s1, q, [], 3)) := addR_below hg hbb (by simp at hk; omega)
    clear hg hk
    go_enter Try.func19, Try.ntmps19
    go_wp2_with fail
    rw [← HW.out]
    refine (specGood_is s1 ao cap q W2 true hl hc (hz.later hB2) HG.out).mono ?_
    rintro e w1 ⟨rfl, hb1⟩
    have hB1 := hB2.trans (hb1.mono hB2.size)
    have A1 := A2.later hb1
    have R1 := R2.later hb1
    have hs1 : w.heap.size + 1 + 1 ≤ w1.heap.size := by have := hb1.size; rw [HS.out] at this; exact this
    clear hb1 A2 R2
    go_wp2_with fail
    refine (l1In_is iv (-1000000) 1000000 _ true HI.out).mono ?_
    rintro e w1 ⟨rfl, rfl⟩
    have HE : Hid (kI.Own (w.heap.size + 1 + 1) (w1.alloc (.cells #[] 3)) (.slice (some ⟨w1.heap.size, 0, none⟩) 0 0) []) := Kind.Own.new kI _ w1 hs1
    have HZ : Hid (kI.In w1.heap.size (w1.alloc (.cells #[] 3)) ao q) := (hz.later hB1).below (below1 _ _)
    have hA1 : w.heap.size < w1.heap.size := A1.size
    have a0 := A1.c 0 rfl
    have af0 := A1.f 0 rfl
    have a1 := A1.c 1 rfl
    have af1 := A1.f 1 rfl
    go_wp2_with (at_builtin; refine Kind.app kI_ok (w1.alloc (.cells #[] 3)) rfl (.tmp 17) (.tmp 19) rfl (w.heap.size + 1 + 1) (.slice (some ⟨w1.heap.size, 0, none⟩) 0 0) [] rfl HE.out (by simp; omega) ao q q.length cap rfl rfl hno _ HZ.out (by simp; omega) ?_; intro v3 w3 hO3 hB3 hG3 hn3; obtain ⟨g, c, rfl, hF3⟩ := hO3.some (hn3 some_ne); rw [List.nil_append] at hF3; have A3 := (A1.alloc (.cells #[] 3)).below hB3 (by omega); have R3 := (R1.alloc (.cells #[] 3)).below hB3 (by omega); have hB4 : Below w.heap.size w w3 := hB1.trans (((below1 w1 (.cells #[] 3)).mono hB1.size).trans (hB3.mono (by omega))); have hs3 : w.heap.size + 1 + 1 ≤ w3.heap.size := (by have := hB3.size; simp at this; omega); have HF : Hid (kI.Fresh (w.heap.size + 1 + 1) w3.heap.size w3 (some ⟨g, 0, none⟩) c q) := hF3; clear hO3 hB3 hG3 hn3 hF3 HE HZ a0 a1 af0 af1 A1 R1; have a0 := A3.c 0 rfl; have a1 := A3.c 1 rfl; have af0 := A3.f 0 rfl; have af1 := A3.f 1 rfl; have r0 := R3.c 0 rfl; have r1 := R3.c 1 rfl; have rf0 := R3.f 0 rfl; have rf1 := R3.f 1 rfl)
    refine (l1In_is (s1 + iv) 0 1000000 _ false HK.out).mono ?_
    rintro e w4 ⟨rfl, rfl⟩
    go_wp2
    refine bodyPost_ret (v := .tuple #[.agg #[.int .i64 s1, .slice (some ⟨g, 0, none⟩) q.length c], .slice none 0 0, .int .i64 3]) (by simp [results, Try.results19, go_sem, r0, r1]) rfl ?_
    rw [HR.out]
    exact ⟨⟨_, c, none, 0, rfl, (((HF.out.setBelow (a := ⟨w.heap.size, 1, none⟩) (by simp; omega) _).setBelow (a := ⟨w.heap.size + 1, 0, none⟩) (by simp) _).setBelow (a := ⟨w.heap.size + 1, 1, none⟩) (by simp) _).wide (by omega) (by simp), .inl rfl, .inr (.inl rfl)⟩, (((hB4.setCell (p := ⟨w.heap.size, 1, none⟩) (by simp) _).setCell (p := ⟨w.heap.size + 1, 0, none⟩) (by simp) _).setCell (p := ⟨w.heap.size + 1, 1, none⟩) (by simp) _)⟩
  have HK : Hid ((decide (0 ≤ s1 + iv) && decide (s1 + iv ≤ 1000000)) = true) := hk
  have hkk : 0 ≤ s1 + iv ∧ s1 + iv ≤ 1000000 := by simp at hk; omega
  clear hk
  by_cases h0 : 0 < s1 + iv
  · have h0' : decide (0 < s1 + iv) = true := by simpa using h0
    have HR : Hid (addR s1 q iv = (s1 + iv, q, [], 0)) := addR_more hg hbb hkk (by omega)
    clear hg
    go_enter Try.func19, Try.ntmps19
    go_wp2_with fail
    rw [← HW.out]
    refine (specGood_is s1 ao cap q W2 true hl hc (hz.later hB2) HG.out).mono ?_
    rintro e w1 ⟨rfl, hb1⟩
    have hB1 := hB2.trans (hb1.mono hB2.size)
    have A1 := A2.later hb1
    have R1 := R2.later hb1
    have hs1 : w.heap.size + 1 + 1 ≤ w1.heap.size := by have := hb1.size; rw [HS.out] at this; exact this
    clear hb1 A2 R2
    go_wp2_with fail
    refine (l1In_is iv (-1000000) 1000000 _ true HI.out).mono ?_
    rintro e w1 ⟨rfl, rfl⟩
    have HE : Hid (kI.Own (w.heap.size + 1 + 1) (w1.alloc (.cells #[] 3)) (.slice (some ⟨w1.heap.size, 0, none⟩) 0 0) []) := Kind.Own.new kI _ w1 hs1
    have HZ : Hid (kI.In w1.heap.size (w1.alloc (.cells #[] 3)) ao q) := (hz.later hB1).below (below1 _ _)
    have hA1 : w.heap.size < w1.heap.size := A1.size
    have a0 := A1.c 0 rfl
    have af0 := A1.f 0 rfl
    have a1 := A1.c 1 rfl
    have af1 := A1.f 1 rfl
    go_wp2_with (at_builtin; refine Kind.app kI_ok (w1.alloc (.cells #[] 3)) rfl (.tmp 17) (.tmp 19) rfl (w.heap.size + 1 + 1) (.slice (some ⟨w1.heap.size, 0, none⟩) 0 0) [] rfl HE.out (by simp; omega) ao q q.length cap rfl rfl hno _ HZ.out (by simp; omega) ?_; intro v3 w3 hO3 hB3 hG3 hn3; obtain ⟨g, c, rfl, hF3⟩ := hO3.some (hn3 some_ne); rw [List.nil_append] at hF3; have A3 := (A1.alloc (.cells #[] 3)).below hB3 (by omega); have R3 := (R1.alloc (.cells #[] 3)).below hB3 (by omega); have hB4 : Below w.heap.size w w3 := hB1.trans (((below1 w1 (.cells #[] 3)).mono hB1.size).trans (hB3.mono (by omega))); have hs3 : w.heap.size + 1 + 1 ≤ w3.heap.size := (by have := hB3.size; simp at this; omega); have HF : Hid (kI.Fresh (w.heap.size + 1 + 1) w3.heap.size w3 (some ⟨g, 0, none⟩) c q) := hF3; clear hO3 hB3 hG3 hn3 hF3 HE HZ a0 a1 af0 af1 A1 R1; have a0 := A3.c 0 rfl; have a1 := A3.c 1 rfl; have af0 := A3.f 0 rfl; have af1 := A3.f 1 rfl; have r0 := R3.c 0 rfl; have r1 := R3.c 1 rfl; have rf0 := R3.f 0 rfl; have rf1 := R3.f 1 rfl)
    refine (l1In_is (s1 + iv) 0 1000000 _ true HK.out).mono ?_
    rintro e w4 ⟨rfl, rfl⟩
    go_wp2
    refine bodyPost_ret (v := .tuple #[.agg #[.int .i64 (s1 + iv), .slice (some ⟨g, 0, none⟩) q.length c], .slice none 0 0, .int .i64 0]) (by simp [results, Try.results19, go_sem, r0, r1]) rfl ?_
    rw [HR.out]
    exact ⟨⟨_, c, none, 0, rfl, ((((HF.out.setBelow (a := ⟨w.heap.size, 1, none⟩) (by simp; omega) _).setBelow (a := ⟨w.heap.size, 0, none⟩) (by simp; omega) _).setBelow (a := ⟨w.heap.size + 1, 0, none⟩) (by simp) _).setBelow (a := ⟨w.heap.size + 1, 1, none⟩) (by simp) _).wide (by omega) (by simp), .inl rfl, .inr (.inl rfl)⟩, ((((hB4.setCell (p := ⟨w.heap.size, 1, none⟩) (by simp) _).setCell (p := ⟨w.heap.size, 0, none⟩) (by simp) _).setCell (p := ⟨w.heap.size + 1, 0, none⟩) (by simp) _).setCell (p := ⟨w.heap.size + 1, 1, none⟩) (by simp) _)⟩
  · have h0' : decide (0 < s1 + iv) = false := by simpa using h0
    have HR : Hid (addR s1 q iv = (s1 + iv, [], q, 0)) := by
      have h00 : s1 + iv = 0 := by omega
      rw [Hid, addR_zero hg hbb h00, h00]
    clear hg
    go_enter Try.func19, Try.ntmps19
    go_wp2_with fail
    rw [← HW.out]
    refine (specGood_is s1 ao cap q W2 true hl hc (hz.later hB2) HG.out).mono ?_
    rintro e w1 ⟨rfl, hb1⟩
    have hB1 := hB2.trans (hb1.mono hB2.size)
    have A1 := A2.later hb1
    have R1 := R2.later hb1
    have hs1 : w.heap.size + 1 + 1 ≤ w1.heap.size := by have := hb1.size; rw [HS.out] at this; exact this
    clear hb1 A2 R2
    go_wp2_with fail
    refine (l1In_is iv (-1000000) 1000000 _ true HI.out).mono ?_
    rintro e w1 ⟨rfl, rfl⟩
    have HE : Hid (kI.Own (w.heap.size + 1 + 1) (w1.alloc (.cells #[] 3)) (.slice (some ⟨w1.heap.size, 0, none⟩) 0 0) []) := Kind.Own.new kI _ w1 hs1
    have HZ : Hid (kI.In w1.heap.size (w1.alloc (.cells #[] 3)) ao q) := (hz.later hB1).below (below1 _ _)
    have hA1 : w.heap.size < w1.heap.size := A1.size
    have a0 := A1.c 0 rfl
    have af0 := A1.f 0 rfl
    have a1 := A1.c 1 rfl
    have af1 := A1.f 1 rfl
    go_wp2_with (at_builtin; refine Kind.app kI_ok (w1.alloc (.cells #[] 3)) rfl (.tmp 17) (.tmp 19) rfl (w.heap.size + 1 + 1) (.slice (some ⟨w1.heap.size, 0, none⟩) 0 0) [] rfl HE.out (by simp; omega) ao q q.length cap rfl rfl hno _ HZ.out (by simp; omega) ?_; intro v3 w3 hO3 hB3 hG3 hn3; obtain ⟨g, c, rfl, hF3⟩ := hO3.some (hn3 some_ne); rw [List.nil_append] at hF3; have A3 := (A1.alloc (.cells #[] 3)).below hB3 (by omega); have R3 := (R1.alloc (.cells #[] 3)).below hB3 (by omega); have hB4 : Below w.heap.size w w3 := hB1.trans (((below1 w1 (.cells #[] 3)).mono hB1.size).trans (hB3.mono (by omega))); have hs3 : w.heap.size + 1 + 1 ≤ w3.heap.size := (by have := hB3.size; simp at this; omega); have HF : Hid (kI.Fresh (w.heap.size + 1 + 1) w3.heap.size w3 (some ⟨g, 0, none⟩) c q) := hF3; clear hO3 hB3 hG3 hn3 hF3 HE HZ a0 a1 af0 af1 A1 R1; have a0 := A3.c 0 rfl; have a1 := A3.c 1 rfl; have af0 := A3.f 0 rfl; have af1 := A3.f 1 rfl; have r0 := R3.c 0 rfl; have r1 := R3.c 1 rfl; have rf0 := R3.f 0 rfl; have rf1 := R3.f 1 rfl)
    refine (l1In_is (s1 + iv) 0 1000000 _ true HK.out).mono ?_
    rintro e w4 ⟨rfl, rfl⟩
    go_wp2
    refine bodyPost_ret (v := .tuple #[.agg #[.int .i64 (s1 + iv), .slice none 0 0], .slice (some ⟨g, 0, none⟩) q.length c, .int .i64 0]) (by simp [results, Try.results19, go_sem, r0, r1]) rfl ?_
    rw [HR.out]
    exact ⟨⟨none, 0, _, c, rfl, .inl rfl, (((((HF.out.setBelow (a := ⟨w.heap.size, 1, none⟩) (by simp; omega) _).setBelow (a := ⟨w.heap.size, 0, none⟩) (by simp; omega) _).setBelow (a := ⟨w.heap.size, 1, none⟩) (by simp; omega) _).setBelow (a := ⟨w.heap.size + 1, 0, none⟩) (by simp) _).setBelow (a := ⟨w.heap.size + 1, 1, none⟩) (by simp) _).wide (by omega) (by simp), .inl rfl⟩, (((((hB4.setCell (p := ⟨w.heap.size, 1, none⟩) (by simp) _).setCell (p := ⟨w.heap.size, 0, none⟩) (by simp) _).setCell (p := ⟨w.heap.size, 1, none⟩) (by simp) _).setCell (p := ⟨w.heap.size + 1, 0, none⟩) (by simp) _).setCell (p := ⟨w.heap.size + 1, 1, none⟩) (by simp) _)⟩
end Go.Proofs.Ytcdkdigafcfgmaa
