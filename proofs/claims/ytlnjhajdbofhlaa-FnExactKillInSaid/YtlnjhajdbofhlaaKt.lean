
/- Cases that are good: the program. No conditions but those written. -/
import Derived.Test.YtlnjhajdbofhlaaKs
namespace Go.Proofs.Ytlnjhajdbofhlaa
open Go.RowKit

/-- A case that may be asked of so many channels. -/
def goodK (n : Nat) (x : Int × Bool × Int) : Bool := decide (-1 ≤ x.1) && decide (x.1 < (n : Int)) && (x.2.1 || decide (x.2.2 = 0))
/-- Whether the cases are good. -/
def goodQB (gs : List PChan) (l : List (Int × Bool × Int)) : Bool := goodHB gs && (decide (l.length ≤ 6) && (List.range l.length).all fun i => goodK gs.length (el l i) && !((l.take i).any (crossB (el l i))))
theorem goodQB_hub {gs : List PChan} {l : List (Int × Bool × Int)} (h : goodHB gs = false) : goodQB gs l = false := by simp [goodQB, h]
theorem goodQB_long {gs : List PChan} {l : List (Int × Bool × Int)} (h : 6 < l.length) : goodQB gs l = false := by simp [goodQB, show ¬ l.length ≤ 6 from by omega]
theorem goodQB_bad {gs : List PChan} {l : List (Int × Bool × Int)} {k : Nat} (hk : k < l.length) (h : goodK gs.length (el l k) = false) : goodQB gs l = false := by
  have : ((List.range l.length).all fun i => goodK gs.length (el l i) && !((l.take i).any (crossB (el l i)))) = false := by
    rw [List.all_eq_false]; exact ⟨k, List.mem_range.2 hk, by simp [h]⟩
  rw [goodQB, this]; simp
theorem goodQB_cross {gs : List PChan} {l : List (Int × Bool × Int)} {k : Nat} (hk : k < l.length) (h : (l.take k).any (crossB (el l k)) = true) : goodQB gs l = false := by
  have : ((List.range l.length).all fun i => goodK gs.length (el l i) && !((l.take i).any (crossB (el l i)))) = false := by
    rw [List.all_eq_false]; exact ⟨k, List.mem_range.2 hk, by rw [h]; simp⟩
  rw [goodQB, this]; simp
theorem goodQB_yes {gs : List PChan} {l : List (Int × Bool × Int)} (hg : goodHB gs = true) (h6 : l.length ≤ 6) (h : ∀ k, k < l.length → goodK gs.length (el l k) = true ∧ (l.take k).any (crossB (el l k)) = false) : goodQB gs l = true := by
  have : ((List.range l.length).all fun i => goodK gs.length (el l i) && !((l.take i).any (crossB (el l i)))) = true := by
    rw [List.all_eq_true]; intro i hi; rw [(h i (List.mem_range.1 hi)).1, (h i (List.mem_range.1 hi)).2]; rfl
  rw [goodQB, this, hg]; simp [h6]
theorem goodCase_is (ao : Option Addr) (cap n : Nat) (x1 : Int) (x2 : Bool) (x3 : Int) (w : World) (x : Bool) (hx : goodK n (x1, x2, x3) = x) :
    Calls Try.prog 86 #[.agg #[.slice ao n cap], .agg #[.int .i64 x1, .bool x2, .int .i64 x3]] w fun e w' => e = .returned (.bool x) ∧ Below w.heap.size w w' := by
  subst hx; exact goodCase_any ao cap n x1 x2 x3 w
theorem crosses_is (x1 : Int) (x2 : Bool) (x3 : Int) (ao : Option Addr) (cap k : Nat) (l : List (Int × Bool × Int)) (w : World) (x : Bool) (hk : l.length = k) (hl : l.length ≤ 1048576) (hz : kQ.In w.heap.size w ao l) (hx : l.any (crossB (x1, x2, x3)) = x) :
    Calls Try.prog 87 #[.agg #[.int .i64 x1, .bool x2, .int .i64 x3], .slice ao k cap] w fun e w' => e = .returned (.bool x) ∧ Below w.heap.size w w' := by
  subst hx; subst hk; exact crosses_any x1 x2 x3 ao cap l w hl hz
set_option maxRecDepth 100000 in
set_option maxHeartbeats 16000000 in
theorem implGoodQ_is (ao : Option Addr) (cap : Nat) (ts : List LChan) (qo : Option Addr) (qc : Nat) (l : List (Int × Bool × Int)) (w : World) (x : Bool) (hl : ts.length ≤ 1048576) (ht : totChan ts ≤ 1048576) (hq : l.length ≤ 1048576) (hqc : l.length ≤ qc) (hz : DIn dChan w.heap.size w ao ts) (hzq : kQ.In w.heap.size w qo l) (hx : goodQB (ts.map valChan) l = x) :
    Calls Try.prog 34 #[.agg #[.slice ao ts.length cap], .slice qo l.length qc] w fun e w' => e = .returned (.bool x) ∧ Below w.heap.size w w' := by
  have HX := hid hx
  have HZ := hid hz
  have HQ := hid hzq
  have HTT := hid ht
  clear hx hz hzq ht
  have hB0 := below1 w (.cells #[.slice ao ts.length cap] 56)
  have X0 := hid (Bx.new (w := w) (p := w.heap.size) [.slice ao ts.length cap] 56 rfl)
  rcases hg : goodHB (ts.map valChan) with _ | _
  · have HG := hid hg
    have hG := implGoodH_is ao cap ts (w.alloc (.cells #[.slice ao ts.length cap] 56)) false hl HTT.out (HZ.out.later dChan_ok hB0) HG.out
    clear hg
    go_enter Try.func34, Try.ntmps34
    go_wp2_with fail
    refine hG.mono ?_
    rintro e w1 ⟨rfl, hb1⟩
    have hB1 := hB0.trans (hb1.mono hB0.size)
    clear hb1 hG hB0
    go_wp2
    all_goals go_ret
    all_goals exact ⟨ret_bool (by rw [← HX.out, goodQB_hub HG.out]), hB1⟩
  have HG := hid hg
  have hG := implGoodH_is ao cap ts (w.alloc (.cells #[.slice ao ts.length cap] 56)) true hl HTT.out (HZ.out.later dChan_ok hB0) HG.out
  clear hg
  by_cases h6 : 6 < l.length
  · have h6' : decide ((6 : Int) < (l.length : Int)) = true := by simp; omega
    have HN : Hid (x = false) := by rw [Hid, ← HX.out]; exact goodQB_long h6
    clear h6
    go_enter Try.func34, Try.ntmps34
    go_wp2_with fail
    refine hG.mono ?_
    rintro e w1 ⟨rfl, hb1⟩
    have hB1 := hB0.trans (hb1.mono hB0.size)
    clear hb1 hG hB0
    go_wp2
    all_goals go_ret
    all_goals exact ⟨ret_bool HN.out.symm, hB1⟩
  have h6' : decide ((6 : Int) < (l.length : Int)) = false := by simp; omega
  have h66 : l.length ≤ 6 := by omega
  clear h6
  go_enter Try.func34, Try.ntmps34
  go_wp2_with fail
  refine hG.mono ?_
  rintro e w1 ⟨rfl, hb1⟩
  have hB1 := hB0.trans (hb1.mono hB0.size)
  have X1 := hid (X0.out.later hb1)
  clear hb1 hG hB0 X0
  go_wp2
  go_loopw [17] (fun i wr => ∃ k : Nat, k ≤ l.length ∧ i = .int .i64 k ∧ Below w.heap.size w wr ∧ Hid (Bx wr w.heap.size [.slice ao ts.length cap]) ∧ Hid (∀ j, j < k → goodK (ts.map valChan).length (el l j) = true ∧ (l.take j).any (crossB (el l j)) = false)) (fun i _ => l.length - (intOf i).toNat)
  case atStart => exact ⟨0, Nat.zero_le _, rfl, hB1, X1, fun j hj => by omega⟩
  case round =>
    clear hB1 X1
    obtain ⟨k, hk, rfl, hB, hX, hno⟩ := hrel
    by_cases hlt : k < l.length
    · obtain ⟨b0, off, rfl, hb, hc⟩ := kQ_at HQ.out hlt
      have d1 := (hB.cell (p := ⟨b0, off + k * 3, none⟩) hb).trans (hc k hlt).1
      have d2 := (hB.cell (p := ⟨b0, off + k * 3 + 1, none⟩) hb).trans (hc k hlt).2.1
      have d3 := (hB.cell (p := ⟨b0, off + k * 3 + 2, none⟩) hb).trans (hc k hlt).2.2
      obtain ⟨⟨y1, y2, y3⟩, ey⟩ : ∃ v, v = el l k := ⟨_, rfl⟩
      rw [← ey] at d1 d2 d3
      have HE := hid ey
      clear ey hc
      dsimp only at d1 d2 d3
      obtain ⟨VW, hVW⟩ : ∃ VW, VW = wr.alloc (.cells #[.int .i64 y1, .bool y2, .int .i64 y3] 117) := ⟨_, rfl⟩
      have hbW : Below wr.heap.size wr VW := by rw [hVW]; exact below1 _ _
      have XW : Hid (Bx VW wr.heap.size [.int .i64 y1, .bool y2, .int .i64 y3]) := by rw [hVW]; exact Bx.new [.int .i64 y1, .bool y2, .int .i64 y3] _ rfl
      have XV := hid (hX.out.later hbW)
      have hBW := hB.trans (hbW.mono hB.size)
      have HVW := hid hVW
      have HQT := hid (HQ.out.take k)
      have hlk : (l.take k).length = k := by simp; omega
      have hkc : (k : Int) ≤ (qc : Int) := by omega
      have hk0 : (0 : Int) ≤ (k : Int) := by omega
      have hkl : (k : Int) ≤ (l.length : Int) := by omega
      have x0 := XV.out.c 0 rfl
      have y0 := XW.out.c 0 rfl
      have yy1 := XW.out.c 1 rfl
      have yy2 := XW.out.c 2 rfl
      clear hbW hX hVW
      rcases hk1 : goodK ts.length (y1, y2, y3) with _ | _
      · have HK := hid hk1
        clear hk1
        go_wp2_with fail
        rw [← HVW.out]
        first
        | go_region_with (first
            | (go_at_call 86; refine (goodCase_is ao cap ts.length y1 y2 y3 _ _ HK.out).mono ?_; rintro e w4 ⟨rfl, hb4⟩; have X4 := XV.out.drew.later hb4; have Y4 := XW.out.drew.later hb4; have hB4 : Below w.heap.size w w4 := hBW.drew.trans (hb4.mono (by exact hBW.size)); have g0 := X4.c 0 rfl; have g1 := Y4.c 0 rfl; have g2 := Y4.c 1 rfl; have g3 := Y4.c 2 rfl; clear hb4))
        | fail
        all_goals go_wp2
        all_goals go_ret
        all_goals exact ⟨ret_bool (by rw [← HX.out, goodQB_bad hlt (by rw [← HE.out, List.length_map]; exact HK.out)]), hB4⟩
      have HK := hid hk1
      clear hk1
      rcases hc1 : (l.take k).any (crossB (y1, y2, y3)) with _ | _
      · have HC := hid hc1
        clear hc1
        go_wp2_with fail
        rw [← HVW.out]
        go_region_held3 (fun Y => Y.cell? ⟨w.heap.size, 0, none⟩ = some (.slice ao ts.length cap) ∧ Y.cell? ⟨wr.heap.size, 0, none⟩ = some (.int .i64 y1) ∧ Y.cell? ⟨wr.heap.size, 1, none⟩ = some (.bool y2) ∧ Y.cell? ⟨wr.heap.size, 2, none⟩ = some (.int .i64 y3))
          (first | (with_reducible exact ⟨x0, y0, yy1, yy2⟩) | (with_reducible exact P4) | (with_reducible exact P5) | exact ⟨x0, y0, yy1, yy2⟩)
          (first
            | (go_at_call 86; refine (goodCase_is ao cap ts.length y1 y2 y3 _ _ HK.out).mono ?_; rintro e w4 ⟨rfl, hb4⟩; have X4 := XV.out.drew.later hb4; have Y4 := XW.out.drew.later hb4; have hB4 : Below w.heap.size w w4 := hBW.drew.trans (hb4.mono (by exact hBW.size)); have P4 := (⟨X4.c 0 rfl, Y4.c 0 rfl, Y4.c 1 rfl, Y4.c 2 rfl⟩ : w4.cell? ⟨w.heap.size, 0, none⟩ = some (.slice ao ts.length cap) ∧ w4.cell? ⟨wr.heap.size, 0, none⟩ = some (.int .i64 y1) ∧ w4.cell? ⟨wr.heap.size, 1, none⟩ = some (.bool y2) ∧ w4.cell? ⟨wr.heap.size, 2, none⟩ = some (.int .i64 y3)); clear hb4)
            | (go_at_call 87; refine (crosses_is y1 y2 y3 _ _ k (l.take k) _ _ hlk (by omega) (by exact (HQT.out.below hB4).up hB4.size) HC.out).mono ?_; rintro e w5 ⟨rfl, hb5⟩; have X5 := hid (X4.later hb5); have Y5 := Y4.later hb5; have hB5 : Below w.heap.size w w5 := hB4.trans (hb5.mono (by exact hB4.size)); have P5 := (⟨X5.out.c 0 rfl, Y5.c 0 rfl, Y5.c 1 rfl, Y5.c 2 rfl⟩ : w5.cell? ⟨w.heap.size, 0, none⟩ = some (.slice ao ts.length cap) ∧ w5.cell? ⟨wr.heap.size, 0, none⟩ = some (.int .i64 y1) ∧ w5.cell? ⟨wr.heap.size, 1, none⟩ = some (.bool y2) ∧ w5.cell? ⟨wr.heap.size, 2, none⟩ = some (.int .i64 y3)); clear hb5))
        all_goals go_wp2
        all_goals go_roundw
        case rel => exact ⟨k + 1, by omega, by go_num, hB5, X5, fun j hj => by
          rcases Nat.lt_succ_iff_lt_or_eq.1 hj with h | rfl
          · exact hno.out j h
          · rw [← HE.out, List.length_map]; exact ⟨HK.out, HC.out⟩⟩
        case measure => simp [intOf]; omega
      · have HC := hid hc1
        clear hc1
        go_wp2_with fail
        rw [← HVW.out]
        go_region_held3 (fun Y => Y.cell? ⟨w.heap.size, 0, none⟩ = some (.slice ao ts.length cap) ∧ Y.cell? ⟨wr.heap.size, 0, none⟩ = some (.int .i64 y1) ∧ Y.cell? ⟨wr.heap.size, 1, none⟩ = some (.bool y2) ∧ Y.cell? ⟨wr.heap.size, 2, none⟩ = some (.int .i64 y3))
          (first | (with_reducible exact ⟨x0, y0, yy1, yy2⟩) | (with_reducible exact P4) | (with_reducible exact P5) | exact ⟨x0, y0, yy1, yy2⟩)
          (first
            | (go_at_call 86; refine (goodCase_is ao cap ts.length y1 y2 y3 _ _ HK.out).mono ?_; rintro e w4 ⟨rfl, hb4⟩; have X4 := XV.out.drew.later hb4; have Y4 := XW.out.drew.later hb4; have hB4 : Below w.heap.size w w4 := hBW.drew.trans (hb4.mono (by exact hBW.size)); have P4 := (⟨X4.c 0 rfl, Y4.c 0 rfl, Y4.c 1 rfl, Y4.c 2 rfl⟩ : w4.cell? ⟨w.heap.size, 0, none⟩ = some (.slice ao ts.length cap) ∧ w4.cell? ⟨wr.heap.size, 0, none⟩ = some (.int .i64 y1) ∧ w4.cell? ⟨wr.heap.size, 1, none⟩ = some (.bool y2) ∧ w4.cell? ⟨wr.heap.size, 2, none⟩ = some (.int .i64 y3)); clear hb4)
            | (go_at_call 87; refine (crosses_is y1 y2 y3 _ _ k (l.take k) _ _ hlk (by omega) (by exact (HQT.out.below hB4).up hB4.size) HC.out).mono ?_; rintro e w5 ⟨rfl, hb5⟩; have X5 := hid (X4.later hb5); have Y5 := Y4.later hb5; have hB5 : Below w.heap.size w w5 := hB4.trans (hb5.mono (by exact hB4.size)); have P5 := (⟨X5.out.c 0 rfl, Y5.c 0 rfl, Y5.c 1 rfl, Y5.c 2 rfl⟩ : w5.cell? ⟨w.heap.size, 0, none⟩ = some (.slice ao ts.length cap) ∧ w5.cell? ⟨wr.heap.size, 0, none⟩ = some (.int .i64 y1) ∧ w5.cell? ⟨wr.heap.size, 1, none⟩ = some (.bool y2) ∧ w5.cell? ⟨wr.heap.size, 2, none⟩ = some (.int .i64 y3)); clear hb5))
        all_goals go_wp2
        all_goals go_ret
        all_goals exact ⟨ret_bool (by rw [← HX.out, goodQB_cross hlt (by rw [← HE.out]; exact HC.out)]), hB5⟩
    · obtain rfl : k = l.length := by omega
      go_wp2
      go_ret
      exact ⟨ret_bool (by rw [← HX.out, goodQB_yes HG.out h66 hno.out]), hB⟩
end Go.Proofs.Ytlnjhajdbofhlaa
