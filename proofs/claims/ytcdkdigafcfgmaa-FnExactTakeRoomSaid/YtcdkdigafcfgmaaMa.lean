/- Rooms: sizes, copies, comparisons, marks. No conditions but those written. -/
import Derived.Test.YtcdkdigafcfgmaaCb
import Derived.Test.YtcdkdigafcfgmaaBx
namespace Go.Proofs.Ytcdkdigafcfgmaa
open Go.RowKit

set_option maxHeartbeats 1000000 in
theorem szRoom_any (s1 s2 : Int) (ao : Option Addr) (len cap : Nat) (w : World) (hl : len ≤ 9223372036854775807) :
    Calls Try.prog 28 #[.agg #[.int .i64 s1, .int .i64 s2, .slice ao len cap], .int .i64 1048576] w fun e w' => (∃ r : Int, e = .returned (.int .i64 r) ∧ ((r < 0) ∨ (0 ≤ r ∧ len ≤ 1048576))) ∧ Below w.heap.size w w' := by
  go_enter Try.func28, Try.ntmps28
  go_wp2_with fail
  refine (szNeedS_any _ _ _ _ _ (by omega) (by omega) hl).mono ?_
  rintro e w1 ⟨⟨r, rfl, hr1, hr2⟩, rfl⟩
  by_cases hr : r < 0
  · go_wp2
    go_ret
    exact ⟨⟨_, rfl, by omega⟩, below1 _ _⟩
  · go_wp2
    go_ret
    exact ⟨⟨_, rfl, by omega⟩, below1 _ _⟩
set_option maxHeartbeats 1000000 in
theorem toRoom_any (s1 s2 : Int) (ao : Option Addr) (cap : Nat) (ts : List (Int × Int)) (w : World) (hl : ts.length ≤ 1048576) (hz : kN.In w.heap.size w ao ts) :
    Calls Try.prog 30 #[.agg #[.int .i64 s1, .int .i64 s2, .slice ao ts.length cap]] w fun e w' => ∃ g, e = .returned (.agg #[.int .i64 s1, .int .i64 s2, .slice (some ⟨g, 0, none⟩) ts.length ts.length]) ∧ kN.Fresh w.heap.size w'.heap.size w' (some ⟨g, 0, none⟩) ts.length ts ∧ Below w.heap.size w w' := by
  go_enter Try.func30, Try.ntmps30
  go_wp2_with fail
  have hB0 : Below w.heap.size w (((w.alloc (.cells #[.int .i64 s1, .int .i64 s2, .slice ao ts.length cap] 41)).alloc (.cells #[.int .i64 0, .int .i64 0, .slice none 0 0] 46)).alloc (.cells #[.int .i64 s1, .int .i64 s2, .slice none 0 0] 46)) := (below3 _ _ _ _)
  have X0 : Bx (((w.alloc (.cells #[.int .i64 s1, .int .i64 s2, .slice ao ts.length cap] 41)).alloc (.cells #[.int .i64 0, .int .i64 0, .slice none 0 0] 46)).alloc (.cells #[.int .i64 s1, .int .i64 s2, .slice none 0 0] 46)) (w.heap.size + 1 + 1) _ := (Bx.new [.int .i64 s1, .int .i64 s2, .slice none 0 0] 46 (by simp : _ = w.heap.size + 1 + 1))
  have R0 : Bx (((w.alloc (.cells #[.int .i64 s1, .int .i64 s2, .slice ao ts.length cap] 41)).alloc (.cells #[.int .i64 0, .int .i64 0, .slice none 0 0] 46)).alloc (.cells #[.int .i64 s1, .int .i64 s2, .slice none 0 0] 46)) (w.heap.size + 1) _ := ((Bx.new [.int .i64 0, .int .i64 0, .slice none 0 0] 46 (by simp : _ = w.heap.size + 1)).alloc _)
  refine (toNeedS_any ao cap ts _ hl (hz.later hB0)).mono ?_
  rintro e w1 ⟨rfl, hF1, hb1⟩
  have hs0 : ((((w.alloc (.cells #[.int .i64 s1, .int .i64 s2, .slice ao ts.length cap] 41)).alloc (.cells #[.int .i64 0, .int .i64 0, .slice none 0 0] 46)).alloc (.cells #[.int .i64 s1, .int .i64 s2, .slice none 0 0] 46))).heap.size = w.heap.size + 1 + 1 + 1 := by simp
  obtain ⟨g, eg⟩ : ∃ g, g = ((((w.alloc (.cells #[.int .i64 s1, .int .i64 s2, .slice ao ts.length cap] 41)).alloc (.cells #[.int .i64 0, .int .i64 0, .slice none 0 0] 46)).alloc (.cells #[.int .i64 s1, .int .i64 s2, .slice none 0 0] 46))).heap.size := ⟨_, rfl⟩
  rw [← eg] at hF1 ⊢
  rw [hs0] at eg
  have hg : g = w.heap.size + 1 + 1 + 1 := eg
  clear eg
  have HF : Hid (kN.Fresh (w.heap.size + 1 + 1 + 1) w1.heap.size w1 (some ⟨g, 0, none⟩) ts.length ts) := by rw [← hg]; exact hF1
  have hB1 := hB0.trans (hb1.mono hB0.size)
  have X1 := X0.later hb1
  have R1 := R0.later hb1
  clear hF1 hb1 X0 R0 hB0 hs0
  have x0 := X1.c 0 rfl
  have xf0 := X1.f 0 rfl
  have x1 := X1.c 1 rfl
  have xf1 := X1.f 1 rfl
  have x2 := X1.c 2 rfl
  have xf2 := X1.f 2 rfl
  have r0 := R1.c 0 rfl
  have rf0 := R1.f 0 rfl
  have r1 := R1.c 1 rfl
  have rf1 := R1.f 1 rfl
  have r2 := R1.c 2 rfl
  have rf2 := R1.f 2 rfl
  go_wp2
  have hsz : g < w1.heap.size + 1 := by have := X1.size; omega
  refine bodyPost_ret (v := .agg #[.int .i64 s1, .int .i64 s2, .slice (some ⟨g, 0, none⟩) ts.length ts.length]) (by simp [results, Try.results30, go_sem, *]) rfl ⟨g, rfl, ?_, ?_⟩
  · exact ((((HF.out.setBelow (a := ⟨w.heap.size + 1 + 1, 2, none⟩) (by simp) _).setBelow (a := ⟨w.heap.size + 1, 0, none⟩) (by simp) _).setBelow (a := ⟨w.heap.size + 1, 1, none⟩) (by simp) _).setBelow (a := ⟨w.heap.size + 1, 2, none⟩) (by simp) _).wide (by omega) (by simp)
  · exact ((((hB1.setCell (p := ⟨w.heap.size + 1 + 1, 2, none⟩) (by simp; omega) _).setCell (p := ⟨w.heap.size + 1, 0, none⟩) (by simp) _).setCell (p := ⟨w.heap.size + 1, 1, none⟩) (by simp) _).setCell (p := ⟨w.heap.size + 1, 2, none⟩) (by simp) _)
set_option maxHeartbeats 1000000 in
theorem eqRoom_same (s1 s2 : Int) (ao bo : Option Addr) (cap cap' : Nat) (ts : List (Int × Int)) (w : World) (hl : ts.length ≤ 1048576) (hz : kN.In w.heap.size w ao ts) (hz' : kN.In w.heap.size w bo ts) :
    Calls Try.prog 32 #[.agg #[.int .i64 s1, .int .i64 s2, .slice ao ts.length cap], .agg #[.int .i64 s1, .int .i64 s2, .slice bo ts.length cap']] w fun e w' => e = .returned (.bool true) ∧ Below w.heap.size w w' := by
  have h1 : (s1 != s1) = false := by simp
  have h2 : (s2 != s2) = false := by simp
  go_enter Try.func32, Try.ntmps32
  go_wp2_with fail
  have hB0 := below2 w (.cells #[.int .i64 s1, .int .i64 s2, .slice ao ts.length cap] 46) (.cells #[.int .i64 s1, .int .i64 s2, .slice bo ts.length cap'] 46)
  refine (eqNeedS_same ao bo cap cap' ts _ hl (hz.later hB0) (hz'.later hB0)).mono ?_
  rintro e w1 ⟨rfl, hb1⟩
  have hB1 := hB0.trans (hb1.mono hB0.size)
  clear hb1 hB0
  go_wp2
  go_ret
  exact ⟨rfl, hB1⟩
set_option maxHeartbeats 1000000 in
theorem markRoom_any (lo hi : Nat) (s1 s2 : Int) (ao : Option Addr) (cap : Nat) (ts : List (Int × Int)) (k0 : Int) (w : World) (hl : ts.length ≤ 2097152) (hk0 : 0 ≤ k0) (hk1 : k0 ≤ 16777216) (hF : kN.Fresh lo hi w ao cap ts) :
    Calls Try.prog 36 #[.agg #[.int .i64 s1, .int .i64 s2, .slice ao ts.length cap], .int .i64 k0] w fun e w' => e = .returned (.int .i64 (k0 + 2 * ts.length)) ∧ kN.Fresh lo hi w' ao cap (markN k0 ts.length) ∧ (∃ w1, Below w.heap.size w w1 ∧ OnlyAt (eff ao ts.length) w1 w') ∧ Between lo hi w w' := by
  go_enter Try.func36, Try.ntmps36
  go_wp2_with fail
  have hB0 := below1 w (.cells #[.int .i64 s1, .int .i64 s2, .slice ao ts.length cap] 46)
  have hF0 := hF.later hB0
  refine (markNeedS_any lo hi ao cap ts k0 _ hl hk0 hk1 hF0).mono ?_
  rintro e w1 ⟨rfl, hF1, hO1⟩
  have hb : Between lo hi w w1 := (Between.of_below hB0).trans (hF0.between hO1)
  have H1 := show Hid (kN.Fresh lo hi w1 ao cap (markN k0 ts.length) ∧ (∃ w0, Below w.heap.size w w0 ∧ OnlyAt (eff ao ts.length) w0 w1) ∧ Between lo hi w w1) from ⟨hF1, ⟨_, hB0, hO1⟩, hb⟩
  clear hF1 hO1 hb hF0 hB0
  go_wp2
  go_ret
  exact ⟨rfl, H1.out⟩
set_option maxHeartbeats 1000000 in
theorem heldRoom_any (s1 s2 : Int) (ao : Option Addr) (cap n : Nat) (k0 : Int) (w : World) (hl : n ≤ 2097152) (hk0 : 0 ≤ k0) (hk1 : k0 ≤ 16777216) (hF : kN.In w.heap.size w ao (markN k0 n)) :
    Calls Try.prog 37 #[.agg #[.int .i64 s1, .int .i64 s2, .slice ao n cap], .int .i64 k0] w fun e w' => e = .returned (.int .i64 (k0 + 2 * n)) ∧ Below w.heap.size w w' := by
  have hk : decide (k0 + 2 * (n : Int) < 0) = false := by simp; omega
  go_enter Try.func37, Try.ntmps37
  go_wp2_with fail
  refine (heldNeedS_any ao cap n k0 _ hl hk0 hk1 (hF.later (below1 _ _))).mono ?_
  rintro e w1 ⟨rfl, rfl⟩
  go_wp2
  go_ret
  exact ⟨rfl, below1 _ _⟩
end Go.Proofs.Ytcdkdigafcfgmaa
