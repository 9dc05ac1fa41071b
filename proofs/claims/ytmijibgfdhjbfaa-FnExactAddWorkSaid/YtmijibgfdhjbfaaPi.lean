
/- AddWork: the specification. No conditions but those written. -/
import Derived.Test.YtmijibgfdhjbfaaPh
namespace Go.Proofs.Ytmijibgfdhjbfaa
open Go.RowKit

set_option maxHeartbeats 2000000 in
theorem l8Own_any (s1 s2 : Int) (ao : Option Addr) (cap : Nat) (l : List Wo) (w : World) (hl : l.length ≤ 1048576) (hno : ao = none → cap = 0) (hz : kW.In w.heap.size w ao l) :
    Calls Try.prog 31 #[.agg #[.int .i64 s1, .int .i64 s2, .slice ao l.length cap]] w fun e w' => (∃ g c, e = .returned (.agg #[.int .i64 s1, .int .i64 s2, .slice (some ⟨g, 0, none⟩) l.length c]) ∧ kW.Fresh w.heap.size w'.heap.size w' (some ⟨g, 0, none⟩) c l ∧ kW.Own w.heap.size w' (.slice (some ⟨g, 0, none⟩) l.length c) l) ∧ Below w.heap.size w w' := by
  obtain ⟨W2, hW2⟩ : ∃ W2, W2 = (w.alloc (.cells #[.int .i64 s1, .int .i64 s2, .slice ao l.length cap] 29)).alloc (.cells #[.int .i64 0, .int .i64 0, .slice none 0 0] 29) := ⟨_, rfl⟩
  have hB2 : Below w.heap.size w W2 := by rw [hW2]; exact below2 _ _ _
  have A2 : Bx W2 w.heap.size [.int .i64 s1, .int .i64 s2, .slice ao l.length cap] := by rw [hW2]; exact (Bx.new [.int .i64 s1, .int .i64 s2, .slice ao l.length cap] _ rfl).alloc _
  have R2 : Bx W2 (w.heap.size + 1) [.int .i64 0, .int .i64 0, .slice none 0 0] := by rw [hW2]; exact Bx.new [.int .i64 0, .int .i64 0, .slice none 0 0] _ (by simp)
  have hsW : W2.heap.size = w.heap.size + 1 + 1 := by rw [hW2]; simp
  have HS := hid hsW
  have HE : Hid (kW.Own (w.heap.size + 1 + 1) (W2.alloc (.cells #[] 47)) (.slice (some ⟨w.heap.size + 1 + 1, 0, none⟩) 0 0) []) := by rw [Hid, ← hsW]; exact Kind.Own.new kW _ W2 (Nat.le_refl _)
  have HZ : Hid (kW.In W2.heap.size (W2.alloc (.cells #[] 47)) ao l) := (hz.later hB2).below (below1 _ _)
  have HW := hid hW2
  clear hW2 hsW
  have hA1 : w.heap.size < w.heap.size + 1 + 1 := by omega
  go_enter Try.func31, Try.ntmps31
  go_wp2_with (at_builtin; rw [← HW.out]; refine Kind.app kW_ok (W2.alloc (.cells #[] 47)) rfl (.tmp 3) (.tmp 5) rfl (w.heap.size + 1 + 1) (.slice (some ⟨w.heap.size + 1 + 1, 0, none⟩) 0 0) [] rfl HE.out (by have := HS.out; simp; omega) ao l l.length cap rfl rfl hno _ HZ.out (by simp; omega) ?_; intro v3 w3 hO3 hB3 hG3 hn3; obtain ⟨g, c, rfl, hF3⟩ := hO3.some (hn3 some_ne); rw [List.nil_append] at hF3 hO3; have A3 := (A2.alloc (.cells #[] 47)).below hB3 (by omega); have R3 := (R2.alloc (.cells #[] 47)).below hB3 (by omega); have hB4 : Below w.heap.size w w3 := hB2.trans (((below1 W2 (.cells #[] 47)).mono hB2.size).trans (hB3.mono (by omega))); have HF := hid hF3; have HO := hid hO3; clear hO3 hB3 hG3 hn3 hF3 HE HZ A2 R2 HW; have a0 := A3.c 0 rfl; have a1 := A3.c 1 rfl; have a2 := A3.c 2 rfl; have af2 := A3.f 2 rfl; have r0 := R3.c 0 rfl; have r1 := R3.c 1 rfl; have r2 := R3.c 2 rfl; have rf0 := R3.f 0 rfl; have rf1 := R3.f 1 rfl; have rf2 := R3.f 2 rfl)
  refine bodyPost_ret (v := .agg #[.int .i64 s1, .int .i64 s2, .slice (some ⟨g, 0, none⟩) l.length c]) (by simp [results, Try.results31, go_sem, r0, r1, r2]) rfl ⟨⟨g, c, rfl, ?_, ?_⟩, ?_⟩
  · exact ((((HF.out.setBelow (a := ⟨w.heap.size, 2, none⟩) (by simp; omega) _).setBelow (a := ⟨w.heap.size + 1, 0, none⟩) (by simp) _).setBelow (a := ⟨w.heap.size + 1, 1, none⟩) (by simp) _).setBelow (a := ⟨w.heap.size + 1, 2, none⟩) (by simp) _).wide (by omega) (by simp)
  · have h := (((HO.out.setBelow (a := ⟨w.heap.size, 2, none⟩) (by simp; omega) (.slice (some ⟨g, 0, none⟩) l.length c)).setBelow (a := ⟨w.heap.size + 1, 0, none⟩) (by simp) (.int .i64 s1)).setBelow (a := ⟨w.heap.size + 1, 1, none⟩) (by simp) (.int .i64 s2)).setBelow (a := ⟨w.heap.size + 1, 2, none⟩) (by simp) (.slice (some ⟨g, 0, none⟩) l.length c)
    exact ownsRow_base h (by have := (owns_lt h).1; omega)
  · exact (((hB4.setCell (p := ⟨w.heap.size, 2, none⟩) (by simp) _).setCell (p := ⟨w.heap.size + 1, 0, none⟩) (by simp) _).setCell (p := ⟨w.heap.size + 1, 1, none⟩) (by simp) _).setCell (p := ⟨w.heap.size + 1, 2, none⟩) (by simp) _

set_option maxRecDepth 10000 in
set_option maxHeartbeats 4000000 in
theorem specAddW_any (s1 s2 : Int) (lo : Option Addr) (lc : Nat) (l : List Wo) (iv : Int) (w : World) (hl : l.length ≤ 1048576) (hcap : l.length ≤ lc) (hno : lo = none → lc = 0) (hz : kW.In w.heap.size w lo l) :
    Calls Try.prog 12 #[.agg #[.int .i64 s1, .int .i64 s2, .slice lo l.length lc], .int .i64 iv] w fun e w' => AnsP w (addWR s1 s2 l iv) e w' := by
  obtain ⟨w0, hw0⟩ : ∃ w0, w0 = ((w.alloc (.cells #[.int .i64 s1, .int .i64 s2, .slice lo l.length lc] 29)).alloc (.cells #[.int .i64 0, .int .i64 0, .slice none 0 0] 29)) := ⟨_, rfl⟩
  have hB0 : Below w.heap.size w w0 := by rw [hw0]; exact Below.allocS (Below.allocS (Below.refl _ _) _) _
  have XA0 : Hid (Bx w0 (w.heap.size) [.int .i64 s1, .int .i64 s2, .slice lo l.length lc]) := by rw [hw0]; exact Bx.alloc (Bx.new [.int .i64 s1, .int .i64 s2, .slice lo l.length lc] _ rfl) _
  have XR0 : Hid (Bx w0 (w.heap.size + 1) [.int .i64 0, .int .i64 0, .slice none 0 0]) := by rw [hw0]; exact Bx.new [.int .i64 0, .int .i64 0, .slice none 0 0] _ (by simp)
  have H0 : Hid (w0 = ((w.alloc (.cells #[.int .i64 s1, .int .i64 s2, .slice lo l.length lc] 29)).alloc (.cells #[.int .i64 0, .int .i64 0, .slice none 0 0] 29))) := hw0
  have hs0 : w.heap.size + 1 + 1 ≤ w0.heap.size := by rw [hw0]; simp
  clear hw0
  cases hg : poolB s1 s2 l
  · have HG := hid hg
    have HR := hid (addWR_bad (k := iv) hg)
    clear hg
    go_enter Try.func12, Try.ntmps12
    go_wp2_with fail
    rw [← H0.out]
    refine (specGoodPool_is s1 s2 lo lc l w0 false hl hcap (hz.later hB0) HG.out).mono ?_
    rintro e w1 ⟨rfl, hb1⟩
    have hB1 := hB0.trans (hb1.mono hB0.size)
    have hs1 : w.heap.size + 1 + 1 ≤ w1.heap.size := Nat.le_trans hs0 hb1.size
    have hz1 : w0.heap.size ≤ w1.heap.size := hb1.size
    have XA1 := hid (XA0.out.later hb1)
    have XR1 := hid (XR0.out.later hb1)
    clear XA0 XR0
    clear hb1
    have a0 := XA1.out.c 0 rfl
    have af0 := XA1.out.f 0 rfl
    have a1 := XA1.out.c 1 rfl
    have af1 := XA1.out.f 1 rfl
    have a2 := XA1.out.c 2 rfl
    have af2 := XA1.out.f 2 rfl
    have az := XA1.out.size
    have r0 := XR1.out.c 0 rfl
    have rf0 := XR1.out.f 0 rfl
    have r1 := XR1.out.c 1 rfl
    have rf1 := XR1.out.f 1 rfl
    have r2 := XR1.out.c 2 rfl
    have rf2 := XR1.out.f 2 rfl
    have rz := XR1.out.size
    go_wp2
    refine bodyPost_ret (v := .tuple #[.agg #[.int .i64 0, .int .i64 0, .slice none 0 0], .int .i64 1]) (by simp [results, Try.results12, go_sem, r0, r1, r2]) rfl ?_
    rw [HR.out]
    exact ⟨⟨none, 0, rfl, .inl rfl⟩, (((hB1.setCell (p := ⟨w.heap.size + 1, 0, none⟩) (by dsimp only; omega) _).setCell (p := ⟨w.heap.size + 1, 1, none⟩) (by dsimp only; omega) _).setCell (p := ⟨w.heap.size + 1, 2, none⟩) (by dsimp only; omega) _)⟩
  have HG := hid hg
  by_cases h0 : s2 = 0
  case neg =>
    have HR := hid (addWR_stop (k := iv) hg h0)
    have h0' : (s2 != 0) = true := by simpa using h0
    clear hg h0
    go_enter Try.func12, Try.ntmps12
    go_wp2_with fail
    rw [← H0.out]
    refine (specGoodPool_is s1 s2 lo lc l w0 true hl hcap (hz.later hB0) HG.out).mono ?_
    rintro e w1 ⟨rfl, hb1⟩
    have hB1 := hB0.trans (hb1.mono hB0.size)
    have hs1 : w.heap.size + 1 + 1 ≤ w1.heap.size := Nat.le_trans hs0 hb1.size
    have hz1 : w0.heap.size ≤ w1.heap.size := hb1.size
    have XA1 := hid (XA0.out.later hb1)
    have XR1 := hid (XR0.out.later hb1)
    clear XA0 XR0
    clear hb1
    have a0 := XA1.out.c 0 rfl
    have af0 := XA1.out.f 0 rfl
    have a1 := XA1.out.c 1 rfl
    have af1 := XA1.out.f 1 rfl
    have a2 := XA1.out.c 2 rfl
    have af2 := XA1.out.f 2 rfl
    have az := XA1.out.size
    have r0 := XR1.out.c 0 rfl
    have rf0 := XR1.out.f 0 rfl
    have r1 := XR1.out.c 1 rfl
    have rf1 := XR1.out.f 1 rfl
    have r2 := XR1.out.c 2 rfl
    have rf2 := XR1.out.f 2 rfl
    have rz := XR1.out.size
    go_wp2_with fail
    clear a0 af0 a1 af1 a2 af2 az r0 rf0 r1 rf1 r2 rf2 rz
    refine (l8Own_any s1 s2 lo lc l w1 hl hno (hz.later hB1)).mono ?_
    rintro e w2 ⟨⟨g, c, rfl, hF, hO⟩, hb2⟩
    have hB2 := hB1.trans (hb2.mono hB1.size)
    have hs2 : w.heap.size + 1 + 1 ≤ w2.heap.size := Nat.le_trans hs1 hb2.size
    have hz2 : w1.heap.size ≤ w2.heap.size := hb2.size
    have XA2 := hid (XA1.out.later hb2)
    have XR2 := hid (XR1.out.later hb2)
    clear XA1 XR1
    have F2 := hid (hF)
    have O2 := hid (hO)
    clear hb2 hF hO
    have a0 := XA2.out.c 0 rfl
    have af0 := XA2.out.f 0 rfl
    have a1 := XA2.out.c 1 rfl
    have af1 := XA2.out.f 1 rfl
    have a2 := XA2.out.c 2 rfl
    have af2 := XA2.out.f 2 rfl
    have az := XA2.out.size
    have r0 := XR2.out.c 0 rfl
    have rf0 := XR2.out.f 0 rfl
    have r1 := XR2.out.c 1 rfl
    have rf1 := XR2.out.f 1 rfl
    have r2 := XR2.out.c 2 rfl
    have rf2 := XR2.out.f 2 rfl
    have rz := XR2.out.size
    go_wp2
    refine bodyPost_ret (v := .tuple #[.agg #[.int .i64 s1, .int .i64 s2, .slice (some ⟨g, 0, none⟩) l.length c], .int .i64 4]) (by simp [results, Try.results12, go_sem, r0, r1, r2]) rfl ?_
    rw [HR.out]
    exact ⟨⟨_, c, rfl, ((((((F2.out.setOff (a := ⟨w.heap.size, 0, none⟩) (by dsimp only; omega) _).setOff (a := ⟨w.heap.size, 1, none⟩) (by dsimp only; omega) _).setOff (a := ⟨w.heap.size, 2, none⟩) (by dsimp only; omega) _).setOff (a := ⟨w.heap.size + 1, 0, none⟩) (by dsimp only; omega) _).setOff (a := ⟨w.heap.size + 1, 1, none⟩) (by dsimp only; omega) _).setOff (a := ⟨w.heap.size + 1, 2, none⟩) (by dsimp only; omega) _).wide (by omega) (by simp <;> omega)⟩, ((((((hB2.setCell (p := ⟨w.heap.size, 0, none⟩) (by dsimp only; omega) _).setCell (p := ⟨w.heap.size, 1, none⟩) (by dsimp only; omega) _).setCell (p := ⟨w.heap.size, 2, none⟩) (by dsimp only; omega) _).setCell (p := ⟨w.heap.size + 1, 0, none⟩) (by dsimp only; omega) _).setCell (p := ⟨w.heap.size + 1, 1, none⟩) (by dsimp only; omega) _).setCell (p := ⟨w.heap.size + 1, 2, none⟩) (by dsimp only; omega) _)⟩
  have h0' : (s2 != 0) = false := by simpa using h0
  have h40 := (poolB_good hg).2.1
  have HG0 := hid (And.intro hg h0)
  clear hg h0
  go_enter Try.func12, Try.ntmps12
  go_wp2_with fail
  rw [← H0.out]
  refine (specGoodPool_is s1 s2 lo lc l w0 true hl hcap (hz.later hB0) HG.out).mono ?_
  rintro e w1 ⟨rfl, hb1⟩
  have hB1 := hB0.trans (hb1.mono hB0.size)
  have hs1 : w.heap.size + 1 + 1 ≤ w1.heap.size := Nat.le_trans hs0 hb1.size
  have hz1 : w0.heap.size ≤ w1.heap.size := hb1.size
  have XA1 := hid (XA0.out.later hb1)
  have XR1 := hid (XR0.out.later hb1)
  clear XA0 XR0
  clear hb1
  have a0 := XA1.out.c 0 rfl
  have af0 := XA1.out.f 0 rfl
  have a1 := XA1.out.c 1 rfl
  have af1 := XA1.out.f 1 rfl
  have a2 := XA1.out.c 2 rfl
  have af2 := XA1.out.f 2 rfl
  have az := XA1.out.size
  have r0 := XR1.out.c 0 rfl
  have rf0 := XR1.out.f 0 rfl
  have r1 := XR1.out.c 1 rfl
  have rf1 := XR1.out.f 1 rfl
  have r2 := XR1.out.c 2 rfl
  have rf2 := XR1.out.f 2 rfl
  have rz := XR1.out.size
  go_wp2_with fail
  clear a0 af0 a1 af1 a2 af2 az r0 rf0 r1 rf1 r2 rf2 rz
  refine (l8Own_any s1 s2 lo lc l w1 hl hno (hz.later hB1)).mono ?_
  rintro e w2 ⟨⟨g, c, rfl, hF, hO⟩, hb2⟩
  have hB2 := hB1.trans (hb2.mono hB1.size)
  have hs2 : w.heap.size + 1 + 1 ≤ w2.heap.size := Nat.le_trans hs1 hb2.size
  have hz2 : w1.heap.size ≤ w2.heap.size := hb2.size
  have XA2 := hid (XA1.out.later hb2)
  have XR2 := hid (XR1.out.later hb2)
  clear XA1 XR1
  have F2 := hid (hF)
  have O2 := hid (hO)
  clear hb2 hF hO
  have a0 := XA2.out.c 0 rfl
  have af0 := XA2.out.f 0 rfl
  have a1 := XA2.out.c 1 rfl
  have af1 := XA2.out.f 1 rfl
  have a2 := XA2.out.c 2 rfl
  have af2 := XA2.out.f 2 rfl
  have az := XA2.out.size
  have r0 := XR2.out.c 0 rfl
  have rf0 := XR2.out.f 0 rfl
  have r1 := XR2.out.c 1 rfl
  have rf1 := XR2.out.f 1 rfl
  have r2 := XR2.out.c 2 rfl
  have rf2 := XR2.out.f 2 rfl
  have rz := XR2.out.size
  obtain ⟨w3, hV⟩ : ∃ V, V = (((w2.setCell ⟨w.heap.size, 0, none⟩ (.int .i64 s1)).setCell ⟨w.heap.size, 1, none⟩ (.int .i64 s2)).setCell ⟨w.heap.size, 2, none⟩ (.slice (some ⟨g, 0, none⟩) l.length c)) := ⟨_, rfl⟩
  have hz3 : w2.heap.size ≤ w3.heap.size := by rw [hV]; simp [World.setCell]
  have hs3 : w.heap.size + 1 + 1 ≤ w3.heap.size := Nat.le_trans hs2 hz3
  have hB3 : Below w.heap.size w w3 := by rw [hV]; exact (((hB2.setCell (p := ⟨w.heap.size, 0, none⟩) (by dsimp only; omega) _).setCell (p := ⟨w.heap.size, 1, none⟩) (by dsimp only; omega) _).setCell (p := ⟨w.heap.size, 2, none⟩) (by dsimp only; omega) _)
  have XA3 := hid ((((XA2.out.set 0 (.int .i64 s1)).set 1 (.int .i64 s2)).set 2 (.slice (some ⟨g, 0, none⟩) l.length c)))
  rw [← hV] at XA3
  have XR3 := hid ((((XR2.out.other (a := ⟨w.heap.size, 0, none⟩) (by dsimp only; omega) (.int .i64 s1)).other (a := ⟨w.heap.size, 1, none⟩) (by dsimp only; omega) (.int .i64 s2)).other (a := ⟨w.heap.size, 2, none⟩) (by dsimp only; omega) (.slice (some ⟨g, 0, none⟩) l.length c)))
  rw [← hV] at XR3
  have F3 := hid ((((F2.out.setOff (a := ⟨w.heap.size, 0, none⟩) (by dsimp only; omega) (.int .i64 s1)).setOff (a := ⟨w.heap.size, 1, none⟩) (by dsimp only; omega) (.int .i64 s2)).setOff (a := ⟨w.heap.size, 2, none⟩) (by dsimp only; omega) (.slice (some ⟨g, 0, none⟩) l.length c)))
  rw [← hV] at F3
  have O3 := hid ((((O2.out.setBelow (a := ⟨w.heap.size, 0, none⟩) (by dsimp only; omega) (.int .i64 s1)).setBelow (a := ⟨w.heap.size, 1, none⟩) (by dsimp only; omega) (.int .i64 s2)).setBelow (a := ⟨w.heap.size, 2, none⟩) (by dsimp only; omega) (.slice (some ⟨g, 0, none⟩) l.length c)))
  rw [← hV] at O3
  have H3 : Hid (w3 = (((w2.setCell ⟨w.heap.size, 0, none⟩ (.int .i64 s1)).setCell ⟨w.heap.size, 1, none⟩ (.int .i64 s2)).setCell ⟨w.heap.size, 2, none⟩ (.slice (some ⟨g, 0, none⟩) l.length c))) := hV
  clear hV XA2 XR2 F2 O2
  go_wp2
  clear a0 af0 a1 af1 a2 af2 az r0 rf0 r1 rf1 r2 rf2 rz
  rw [← H3.out]
  have hI := hid F3.out.in
  go_loopw [21] (fun i wr => ∃ k : Nat, k ≤ l.length ∧ i = .int .i64 k ∧ Hid (∀ j, j < k → (el l j).1 ≠ iv) ∧ Below w3.heap.size w3 wr) (fun i _ => l.length - (intOf i).toNat)
  case atStart => exact ⟨0, Nat.zero_le _, rfl, fun j hj => by omega, Below.refl _ _⟩
  case round =>
    obtain ⟨k, hk, rfl, hnn, hB⟩ := hrel
    have hBw := hB3.trans (hB.mono hB3.size)
    have hsw := hB.size
    have XA := hid (XA3.out.later hB)
    have XR := hid (XR3.out.later hB)
    have FF := hid (F3.out.later hB)
    have OO := hid (O3.out.below hB)
    have az := XA.out.size
    have rz := XR.out.size
    have a0 := XA.out.c 0 rfl
    have a1 := XA.out.c 1 rfl
    have a2 := XA.out.c 2 rfl
    have af2 := XA.out.f 2 rfl
    have r0 := XR.out.c 0 rfl
    have r1 := XR.out.c 1 rfl
    have r2 := XR.out.c 2 rfl
    have rf0 := XR.out.f 0 rfl
    have rf1 := XR.out.f 1 rfl
    have rf2 := XR.out.f 2 rfl
    by_cases hlt : k < l.length
    · obtain ⟨bb, off, eb, hbb, hc⟩ := kW_at hI.out hlt
      obtain ⟨rfl, rfl⟩ : g = bb ∧ 0 = off := by simp at eb; exact ⟨eb.1, eb.2⟩
      have d1 := (hB.cell (p := ⟨g, 0 + k * 3, none⟩) hbb).trans (hc k hlt).1
      have d2 := (hB.cell (p := ⟨g, 0 + k * 3 + 1, none⟩) hbb).trans (hc k hlt).2.1
      have d3 := (hB.cell (p := ⟨g, 0 + k * 3 + 2, none⟩) hbb).trans (hc k hlt).2.2
      rw [Nat.zero_add] at d1 d2 d3
      obtain ⟨⟨y1, y2, y3⟩, ey⟩ : ∃ v, v = el l k := ⟨_, rfl⟩
      rw [← ey] at d1 d2 d3
      have HY : Hid (el l k = (y1, y2, y3)) := ey.symm
      clear ey hc eb
      dsimp only at d1 d2 d3
      have hbw : g < wr.heap.size := Nat.lt_of_lt_of_le hbb hsw
      cases he : (y1 == iv)
      · have HE : Hid (y1 ≠ iv) := by simpa [Hid] using he
        go_wp2
        go_roundw
        case rel => exact ⟨k + 1, by omega, by go_num, fun j hj => by
          rcases Nat.lt_succ_iff_lt_or_eq.1 hj with h | rfl
          · exact hnn.out j h
          · rw [HY.out]; exact HE.out, Below.allocS hB _⟩
        case measure => simp [intOf]; omega
      · have HR := hid (addWR_twice HG0.out.1 HG0.out.2 (hasB_yes (zs := idsOf l) (n := iv) (k := k) (by rw [idsOf_len]; exact hlt) (by rw [idsOf_el hlt, HY.out]; simpa using he)))
        go_wp2
        refine bodyPost_ret (v := .tuple #[.agg #[.int .i64 s1, .int .i64 s2, .slice (some ⟨g, 0, none⟩) l.length c], .int .i64 5]) (by simp [results, Try.results12, go_sem, r0, r1, r2, rz]) rfl ?_
        rw [HR.out]
        exact ⟨⟨_, c, rfl, ((((FF.out.setOff (a := ⟨w.heap.size + 1, 0, none⟩) (by dsimp only; omega) _).setOff (a := ⟨w.heap.size + 1, 1, none⟩) (by dsimp only; omega) _).setOff (a := ⟨w.heap.size + 1, 2, none⟩) (by dsimp only; omega) _).later (below1 _ _)).wide (by omega) (by simp; omega)⟩, Below.allocS (((hBw.setCell (p := ⟨w.heap.size + 1, 0, none⟩) (by dsimp only; omega) _).setCell (p := ⟨w.heap.size + 1, 1, none⟩) (by dsimp only; omega) _).setCell (p := ⟨w.heap.size + 1, 2, none⟩) (by dsimp only; omega) _) _⟩
    · obtain rfl : k = l.length := by omega
      have HM := hid (hasB_no (zs := idsOf l) (n := iv) fun j hj => by rw [idsOf_len] at hj; rw [idsOf_el hj]; exact hnn.out j hj)
      clear hnn hk hlt
      by_cases h4 : l.length = 40
      · have HR := hid (addWR_full HG0.out.1 HG0.out.2 HM.out h4)
        have h4' : ((l.length : Int) == 40) = true := by simp; omega
        clear h4
        go_wp2
        refine bodyPost_ret (v := .tuple #[.agg #[.int .i64 s1, .int .i64 s2, .slice (some ⟨g, 0, none⟩) l.length c], .int .i64 2]) (by simp [results, Try.results12, go_sem, r0, r1, r2]) rfl ?_
        rw [HR.out]
        exact ⟨⟨_, c, rfl, (((FF.out.setOff (a := ⟨w.heap.size + 1, 0, none⟩) (by dsimp only; omega) _).setOff (a := ⟨w.heap.size + 1, 1, none⟩) (by dsimp only; omega) _).setOff (a := ⟨w.heap.size + 1, 2, none⟩) (by dsimp only; omega) _).wide (by omega) (by simp; omega)⟩, ((hBw.setCell (p := ⟨w.heap.size + 1, 0, none⟩) (by dsimp only; omega) _).setCell (p := ⟨w.heap.size + 1, 1, none⟩) (by dsimp only; omega) _).setCell (p := ⟨w.heap.size + 1, 2, none⟩) (by dsimp only; omega) _⟩
      · have HR := hid (addWR_ok HG0.out.1 HG0.out.2 HM.out h4)
        have h4' : ((l.length : Int) == 40) = false := by simp; omega
        clear h4
        have hll : l.length + 1 ≤ 4194304 := by omega
        have HA := hid (OO.out.below (below1 wr (.cells #[.int .i64 iv, .int .i64 1, .int .i64 0] 47)))
        have HN : Hid (kW.In (wr.heap.size + 1) (wr.alloc (.cells #[.int .i64 iv, .int .i64 1, .int .i64 0] 47)) (some ⟨wr.heap.size, 0, none⟩) [(iv, 1, 0)]) := kW_one (by omega) (by simp) (by simp) (by simp)
        have XAa := hid (XA.out.alloc (.cells #[.int .i64 iv, .int .i64 1, .int .i64 0] 47))
        have XRa := hid (XR.out.alloc (.cells #[.int .i64 iv, .int .i64 1, .int .i64 0] 47))
        have hBa := Below.allocS hBw (.cells #[.int .i64 iv, .int .i64 1, .int .i64 0] 47)
        go_wp2_with (at_builtin; refine Kind.app kW_ok (wr.alloc (.cells #[.int .i64 iv, .int .i64 1, .int .i64 0] 47)) rfl (.tmp 37) (.tmp 40) rfl w1.heap.size (.slice (some ⟨g, 0, none⟩) l.length c) l rfl HA.out (by simp; omega) (some ⟨wr.heap.size, 0, none⟩) [(iv, 1, 0)] 1 1 rfl rfl (by simp) _ HN.out hll ?_; intro v' w' hO' hB' hG' hn'; obtain ⟨g', c', rfl, hF'⟩ := hO'.some (hn' some_ne); have XA' := XAa.out.below hB' (by omega); have XR' := XRa.out.below hB' (by omega); have hBn : Below w.heap.size w w' := hBa.trans (hB'.mono (by omega)); have hsn : w.heap.size + 1 + 1 ≤ w'.heap.size := (by have := hB'.size; simp at this; omega); have FN := hid hF'; clear hO' hB' hG' hn' hF' HA HN XAa XRa a0 a1 a2 af2 r0 r1 r2 rf0 rf1 rf2 az rz; have a0 := XA'.c 0 rfl; have a1 := XA'.c 1 rfl; have a2 := XA'.c 2 rfl; have af2 := XA'.f 2 rfl; have az := XA'.size; have rz := XR'.size; have r0 := XR'.c 0 rfl; have r1 := XR'.c 1 rfl; have r2 := XR'.c 2 rfl; have rf0 := XR'.f 0 rfl; have rf1 := XR'.f 1 rfl; have rf2 := XR'.f 2 rfl)
        refine bodyPost_ret (v := .tuple #[.agg #[.int .i64 s1, .int .i64 s2, .slice (some ⟨g', 0, none⟩) (l ++ [(iv, 1, 0)]).length c'], .int .i64 0]) (by simp [results, Try.results12, go_sem, r0, r1, r2]) rfl ?_
        rw [HR.out]
        exact ⟨⟨_, c', rfl, ((((FN.out.setOff (a := ⟨w.heap.size, 2, none⟩) (by dsimp only; omega) _).setOff (a := ⟨w.heap.size + 1, 0, none⟩) (by dsimp only; omega) _).setOff (a := ⟨w.heap.size + 1, 1, none⟩) (by dsimp only; omega) _).setOff (a := ⟨w.heap.size + 1, 2, none⟩) (by dsimp only; omega) _).wide (by omega) (by simp)⟩, (((hBn.setCell (p := ⟨w.heap.size, 2, none⟩) (by dsimp only; omega) _).setCell (p := ⟨w.heap.size + 1, 0, none⟩) (by dsimp only; omega) _).setCell (p := ⟨w.heap.size + 1, 1, none⟩) (by dsimp only; omega) _).setCell (p := ⟨w.heap.size + 1, 2, none⟩) (by dsimp only; omega) _⟩
end Go.Proofs.Ytmijibgfdhjbfaa
