
/- Pools: sizes, copies, comparisons, marks. No conditions but those written. -/
import Derived.Test.YtmijibgfdhjbfaaWc
import Derived.Test.YtmijibgfdhjbfaaBx
namespace Go.Proofs.Ytmijibgfdhjbfaa
open Go.RowKit

set_option maxHeartbeats 1000000 in
theorem szPool_any (s1 s2 : Int) (ao : Option Addr) (len cap : Nat) (w : World) (hl : len ≤ 9223372036854775807) :
    Calls Try.prog 7 #[.agg #[.int .i64 s1, .int .i64 s2, .slice ao len cap], .int .i64 1048576] w fun e w' => (∃ r : Int, e = .returned (.int .i64 r) ∧ ((r < 0) ∨ (0 ≤ r ∧ len ≤ 1048576))) ∧ Below w.heap.size w w' := by
  go_enter Try.func7, Try.ntmps7
  go_wp2_with fail
  refine (szWorkS_any _ _ _ _ _ (by omega) (by omega) hl).mono ?_
  rintro e w1 ⟨⟨r, rfl, hr1, hr2⟩, rfl⟩
  by_cases hr : r < 0
  · go_wp2
    go_ret
    exact ⟨⟨_, rfl, by omega⟩, below1 _ _⟩
  · go_wp2
    go_ret
    exact ⟨⟨_, rfl, by omega⟩, below1 _ _⟩
set_option maxHeartbeats 1000000 in
theorem toPool_any (s1 s2 : Int) (ao : Option Addr) (cap : Nat) (ts : List (Int × Int × Int)) (w : World) (hl : ts.length ≤ 1048576) (hz : kW.In w.heap.size w ao ts) :
    Calls Try.prog 9 #[.agg #[.int .i64 s1, .int .i64 s2, .slice ao ts.length cap]] w fun e w' => ∃ g, e = .returned (.agg #[.int .i64 s1, .int .i64 s2, .slice (some ⟨g, 0, none⟩) ts.length ts.length]) ∧ kW.Fresh w.heap.size w'.heap.size w' (some ⟨g, 0, none⟩) ts.length ts ∧ Below w.heap.size w w' := by
  go_enter Try.func9, Try.ntmps9
  go_wp2_with fail
  have hB0 : Below w.heap.size w (((w.alloc (.cells #[.int .i64 s1, .int .i64 s2, .slice ao ts.length cap] 24)).alloc (.cells #[.int .i64 0, .int .i64 0, .slice none 0 0] 29)).alloc (.cells #[.int .i64 s1, .int .i64 s2, .slice none 0 0] 29)) := (below3 _ _ _ _)
  have X0 : Bx (((w.alloc (.cells #[.int .i64 s1, .int .i64 s2, .slice ao ts.length cap] 24)).alloc (.cells #[.int .i64 0, .int .i64 0, .slice none 0 0] 29)).alloc (.cells #[.int .i64 s1, .int .i64 s2, .slice none 0 0] 29)) (w.heap.size + 1 + 1) _ := (Bx.new [.int .i64 s1, .int .i64 s2, .slice none 0 0] 29 (by simp : _ = w.heap.size + 1 + 1))
  have R0 : Bx (((w.alloc (.cells #[.int .i64 s1, .int .i64 s2, .slice ao ts.length cap] 24)).alloc (.cells #[.int .i64 0, .int .i64 0, .slice none 0 0] 29)).alloc (.cells #[.int .i64 s1, .int .i64 s2, .slice none 0 0] 29)) (w.heap.size + 1) _ := ((Bx.new [.int .i64 0, .int .i64 0, .slice none 0 0] 29 (by simp : _ = w.heap.size + 1)).alloc _)
  refine (toWorkS_any ao cap ts _ hl (hz.later hB0)).mono ?_
  rintro e w1 ⟨rfl, hF1, hb1⟩
  have hs0 : ((((w.alloc (.cells #[.int .i64 s1, .int .i64 s2, .slice ao ts.length cap] 24)).alloc (.cells #[.int .i64 0, .int .i64 0, .slice none 0 0] 29)).alloc (.cells #[.int .i64 s1, .int .i64 s2, .slice none 0 0] 29))).heap.size = w.heap.size + 1 + 1 + 1 := by simp
  obtain ⟨g, eg⟩ : ∃ g, g = ((((w.alloc (.cells #[.int .i64 s1, .int .i64 s2, .slice ao ts.length cap] 24)).alloc (.cells #[.int .i64 0, .int .i64 0, .slice none 0 0] 29)).alloc (.cells #[.int .i64 s1, .int .i64 s2, .slice none 0 0] 29))).heap.size := ⟨_, rfl⟩
  rw [← eg] at hF1 ⊢
  rw [hs0] at eg
  have hg : g = w.heap.size + 1 + 1 + 1 := eg
  clear eg
  have HF : Hid (kW.Fresh (w.heap.size + 1 + 1 + 1) w1.heap.size w1 (some ⟨g, 0, none⟩) ts.length ts) := by rw [← hg]; exact hF1
  have hB1 := hB0.trans (hb1.mono hB0.size)
  have X1 := X0.later hb1
  have R1 := R0.later hb1
  clear hF1 hb1 X0 R0 hB0 hs0
  have x0 := X1.c 0 rfl
  have xf0 := X1.f 0 rfl
  have x1 := X1.c 1 rfl
  have xf1 := X1.f 1 rfl
  have x2 := X1.c 2 rfl
  have xf2 := X1.f 2 rfl
  have r0 := R1.c 0 rfl
  have rf0 := R1.f 0 rfl
  have r1 := R1.c 1 rfl
  have rf1 := R1.f 1 rfl
  have r2 := R1.c 2 rfl
  have rf2 := R1.f 2 rfl
  go_wp2
  have hsz : g < w1.heap.size + 1 := by have := X1.size; omega
  refine bodyPost_ret (v := .agg #[.int .i64 s1, .int .i64 s2, .slice (some ⟨g, 0, none⟩) ts.length ts.length]) (by simp [results, Try.results9, go_sem, *]) rfl ⟨g, rfl, ?_, ?_⟩
  · exact ((((HF.out.setBelow (a := ⟨w.heap.size + 1 + 1, 2, none⟩) (by simp) _).setBelow (a := ⟨w.heap.size + 1, 0, none⟩) (by simp) _).setBelow (a := ⟨w.heap.size + 1, 1, none⟩) (by simp) _).setBelow (a := ⟨w.heap.size + 1, 2, none⟩) (by simp) _).wide (by omega) (by simp)
  · exact ((((hB1.setCell (p := ⟨w.heap.size + 1 + 1, 2, none⟩) (by simp; omega) _).setCell (p := ⟨w.heap.size + 1, 0, none⟩) (by simp) _).setCell (p := ⟨w.heap.size + 1, 1, none⟩) (by simp) _).setCell (p := ⟨w.heap.size + 1, 2, none⟩) (by simp) _)
set_option maxHeartbeats 1000000 in
theorem eqPool_same (s1 s2 : Int) (ao bo : Option Addr) (cap cap' : Nat) (ts : List (Int × Int × Int)) (w : World) (hl : ts.length ≤ 1048576) (hz : kW.In w.heap.size w ao ts) (hz' : kW.In w.heap.size w bo ts) :
    Calls Try.prog 11 #[.agg #[.int .i64 s1, .int .i64 s2, .slice ao ts.length cap], .agg #[.int .i64 s1, .int .i64 s2, .slice bo ts.length cap']] w fun e w' => e = .returned (.bool true) ∧ Below w.heap.size w w' := by
  have h1 : (s1 != s1) = false := by simp
  have h2 : (s2 != s2) = false := by simp
  go_enter Try.func11, Try.ntmps11
  go_wp2_with fail
  have hB0 := below2 w (.cells #[.int .i64 s1, .int .i64 s2, .slice ao ts.length cap] 29) (.cells #[.int .i64 s1, .int .i64 s2, .slice bo ts.length cap'] 29)
  refine (eqWorkS_same ao bo cap cap' ts _ hl (hz.later hB0) (hz'.later hB0)).mono ?_
  rintro e w1 ⟨rfl, hb1⟩
  have hB1 := hB0.trans (hb1.mono hB0.size)
  clear hb1 hB0
  go_wp2
  go_ret
  exact ⟨rfl, hB1⟩
set_option maxHeartbeats 1000000 in
theorem markPool_any (lo hi : Nat) (s1 s2 : Int) (ao : Option Addr) (cap : Nat) (ts : List (Int × Int × Int)) (k0 : Int) (w : World) (hl : ts.length ≤ 2097152) (hk0 : 0 ≤ k0) (hk1 : k0 ≤ 16777216) (hF : kW.Fresh lo hi w ao cap ts) :
    Calls Try.prog 14 #[.agg #[.int .i64 s1, .int .i64 s2, .slice ao ts.length cap], .int .i64 k0] w fun e w' => e = .returned (.int .i64 (k0 + 3 * ts.length)) ∧ kW.Fresh lo hi w' ao cap (markW k0 ts.length) ∧ (∃ w1, Below w.heap.size w w1 ∧ OnlyAt (eff ao ts.length) w1 w') ∧ Between lo hi w w' := by
  go_enter Try.func14, Try.ntmps14
  go_wp2_with fail
  have hB0 := below1 w (.cells #[.int .i64 s1, .int .i64 s2, .slice ao ts.length cap] 29)
  have hF0 := hF.later hB0
  refine (markWorkS_any lo hi ao cap ts k0 _ hl hk0 hk1 hF0).mono ?_
  rintro e w1 ⟨rfl, hF1, hO1⟩
  have hb : Between lo hi w w1 := (Between.of_below hB0).trans (hF0.between hO1)
  have H1 := show Hid (kW.Fresh lo hi w1 ao cap (markW k0 ts.length) ∧ (∃ w0, Below w.heap.size w w0 ∧ OnlyAt (eff ao ts.length) w0 w1) ∧ Between lo hi w w1) from ⟨hF1, ⟨_, hB0, hO1⟩, hb⟩
  clear hF1 hO1 hb hF0 hB0
  go_wp2
  go_ret
  exact ⟨rfl, H1.out⟩
set_option maxHeartbeats 1000000 in
theorem heldPool_any (s1 s2 : Int) (ao : Option Addr) (cap n : Nat) (k0 : Int) (w : World) (hl : n ≤ 2097152) (hk0 : 0 ≤ k0) (hk1 : k0 ≤ 16777216) (hF : kW.In w.heap.size w ao (markW k0 n)) :
    Calls Try.prog 15 #[.agg #[.int .i64 s1, .int .i64 s2, .slice ao n cap], .int .i64 k0] w fun e w' => e = .returned (.int .i64 (k0 + 3 * n)) ∧ Below w.heap.size w w' := by
  have hk : decide (k0 + 3 * (n : Int) < 0) = false := by simp; omega
  go_enter Try.func15, Try.ntmps15
  go_wp2_with fail
  refine (heldWorkS_any ao cap n k0 _ hl hk0 hk1 (hF.later (below1 _ _))).mono ?_
  rintro e w1 ⟨rfl, rfl⟩
  go_wp2
  go_ret
  exact ⟨rfl, below1 _ _⟩
set_option maxRecDepth 10000 in
set_option maxHeartbeats 4000000 in
theorem copyPool_any (s1 s2 : Int) (ao : Option Addr) (cap : Nat) (ts : List (Int × Int × Int)) (w : World) (hl : ts.length ≤ 1048576) (hz : kW.In w.heap.size w ao ts) :
    Calls Try.prog 32 #[.agg #[.int .i64 s1, .int .i64 s2, .slice ao ts.length cap]] w fun e w' => (∃ go1, e = .returned (.agg #[.int .i64 s1, .int .i64 s2, .slice go1 ts.length ts.length]) ∧ kW.Fresh w.heap.size w'.heap.size w' go1 ts.length ts) ∧ Below w.heap.size w w' := by
  obtain ⟨W2, hW2⟩ : ∃ W2, W2 = (w.alloc (.cells #[.int .i64 s1, .int .i64 s2, .slice ao ts.length cap] 29)).alloc (.cells #[.int .i64 0, .int .i64 0, .slice none 0 0] 29) := ⟨_, rfl⟩
  have hB2 : Below w.heap.size w W2 := by rw [hW2]; exact below2 _ _ _
  have A2 : Bx W2 w.heap.size [.int .i64 s1, .int .i64 s2, .slice ao ts.length cap] := by rw [hW2]; exact (Bx.new [.int .i64 s1, .int .i64 s2, .slice ao ts.length cap] _ rfl).alloc _
  have R2 : Bx W2 (w.heap.size + 1) [.int .i64 0, .int .i64 0, .slice none 0 0] := by rw [hW2]; exact Bx.new [.int .i64 0, .int .i64 0, .slice none 0 0] _ (by simp)
  have HW : Hid (W2 = (w.alloc (.cells #[.int .i64 s1, .int .i64 s2, .slice ao ts.length cap] 29)).alloc (.cells #[.int .i64 0, .int .i64 0, .slice none 0 0] 29)) := hW2
  have HS : Hid (W2.heap.size = w.heap.size + 1 + 1) := by rw [hW2]; simp [Hid]
  have hsl : w.heap.size < W2.heap.size := A2.size
  clear hW2
  have a0 := A2.c 0 rfl
  have a1 := A2.c 1 rfl
  have a2 := A2.c 2 rfl
  go_enter Try.func32, Try.ntmps32
  go_wp2
  rw [← HW.out]
  go_region_held3 (fun Y => Y.cell? ⟨w.heap.size, 0, none⟩ = some (.int .i64 s1) ∧ Y.cell? ⟨w.heap.size, 1, none⟩ = some (.int .i64 s2) ∧ Y.cell? ⟨w.heap.size, 2, none⟩ = some (.slice ao ts.length cap))
    (first | ((refine ⟨?_, ?_, ?_⟩ <;> (rw [World.cell?_setCell_other _ _ _ _ (by simp), World.cell?_setCell_other _ _ _ _ (by simp), World.cell?_setCell_other _ _ _ _ (by simp)])); exact P1.1; exact P1.2.1; exact P1.2.2) | exact ⟨a0, a1, a2⟩ | exact P1)
    (first
      | (go_at_call 47; refine (copyListW_any ao cap ts _ hl (by exact hz.later hB2.drew)).mono ?_; rintro e w1 ⟨⟨go1, rfl, hF1⟩, hb1⟩; have hB3 : Below w.heap.size w w1 := hB2.drew.trans (hb1.mono hB2.size); have A3 := A2.drew.later hb1; have R3 := R2.drew.later hb1; have P1 := (⟨A3.c 0 rfl, A3.c 1 rfl, A3.c 2 rfl⟩ : w1.cell? ⟨w.heap.size, 0, none⟩ = some (.int .i64 s1) ∧ w1.cell? ⟨w.heap.size, 1, none⟩ = some (.int .i64 s2) ∧ w1.cell? ⟨w.heap.size, 2, none⟩ = some (.slice ao ts.length cap)); have r0 := R3.c 0 rfl; have f0 := R3.f 0 rfl; have r1 := R3.c 1 rfl; have f1 := R3.f 1 rfl; have r2 := R3.c 2 rfl; have f2 := R3.f 2 rfl; have F3 : Hid (kW.Fresh W2.heap.size w1.heap.size w1 go1 ts.length ts) := hF1; clear hF1 hb1))
  all_goals
    go_wp2
    refine bodyPost_ret (v := .agg #[.int .i64 s1, .int .i64 s2, .slice go1 ts.length ts.length]) (by simp [results, Try.results32, go_sem, r0, r1, r2]) rfl ⟨⟨go1, rfl, ?_⟩, ?_⟩
    · have h0 := F3.out
      rw [HS.out] at h0
      exact (((h0.setBelow (a := ⟨w.heap.size + 1, 0, none⟩) (by simp) _).setBelow (a := ⟨w.heap.size + 1, 1, none⟩) (by simp) _).setBelow (a := ⟨w.heap.size + 1, 2, none⟩) (by simp) _).wide (by omega) (by simp)
    · exact (((hB3.setCell (p := ⟨w.heap.size + 1, 0, none⟩) (by simp) _).setCell (p := ⟨w.heap.size + 1, 1, none⟩) (by simp) _).setCell (p := ⟨w.heap.size + 1, 2, none⟩) (by simp) _)
end Go.Proofs.Ytmijibgfdhjbfaa
