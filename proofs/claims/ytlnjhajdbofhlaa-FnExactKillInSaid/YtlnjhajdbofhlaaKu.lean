
/- Cases that are good: the specification. No conditions but those written. -/
import Derived.Test.YtlnjhajdbofhlaaKt
import Derived.Test.YtlnjhajdbofhlaaKe
namespace Go.Proofs.Ytlnjhajdbofhlaa
open Go.RowKit

theorem goodK_1 {n : Nat} {a : Int} {b : Bool} {c : Int} (h : (decide (-1 ≤ a) && decide (a ≤ (n : Int) - 1)) = false) : goodK n (a, b, c) = false := by
  have : (decide (-1 ≤ a) && decide (a < (n : Int))) = false := by simp at h ⊢; omega
  rw [goodK, this]; rfl
theorem goodK_2 {n : Nat} {a c : Int} (h : (c != 0) = true) : goodK n (a, false, c) = false := by
  have : decide (c = 0) = false := by simpa using h
  simp [goodK, this]
theorem goodK_3 {n : Nat} {a : Int} {b : Bool} {c : Int} (h : (decide (-1 ≤ a) && decide (a ≤ (n : Int) - 1)) = true) (h2 : b = true ∨ (c != 0) = false) : goodK n (a, b, c) = true := by
  have : (decide (-1 ≤ a) && decide (a < (n : Int))) = true := by simp at h ⊢; omega
  rw [goodK, this]
  rcases h2 with h2 | h2
  · simp [h2]
  · simp at h2; simp [h2]
theorem any_none {l : List (Int × Bool × Int)} {p : Int × Bool × Int → Bool} {k : Nat} (hk : k ≤ l.length) (h : ∀ q, q < k → p (el l q) = false) : (l.take k).any p = false := by
  rw [List.any_eq_false]
  intro x hx
  obtain ⟨j, hj, rfl⟩ := mem_el hx
  have hj' : j < k := by simp at hj; omega
  have : el (l.take k) j = el l j := by simp [el, show j < l.length by omega, hj']
  rw [this, h j hj']; simp
theorem any_some {l : List (Int × Bool × Int)} {p : Int × Bool × Int → Bool} {k q : Nat} (hk : k ≤ l.length) (hq : q < k) (h : p (el l q) = true) : (l.take k).any p = true := by
  rw [List.any_eq_true]
  have hj : q < (l.take k).length := by simp; omega
  refine ⟨el (l.take k) q, el_mem hj, ?_⟩
  have : el (l.take k) q = el l q := by simp [el, show q < l.length by omega, hq]
  rw [this]; exact h
set_option maxRecDepth 100000 in
set_option maxHeartbeats 16000000 in
theorem specGoodQ_is (ao : Option Addr) (cap : Nat) (ts : List LChan) (qo : Option Addr) (qc : Nat) (l : List (Int × Bool × Int)) (w : World) (x : Bool) (hl : ts.length ≤ 1048576) (ht : totChan ts ≤ 1048576) (hq : l.length ≤ 1048576) (hqc : l.length ≤ qc) (hz : DIn dChan w.heap.size w ao ts) (hzq : kQ.In w.heap.size w qo l) (hx : goodQB (ts.map valChan) l = x) :
    Calls Try.prog 32 #[.agg #[.slice ao ts.length cap], .slice qo l.length qc] w fun e w' => e = .returned (.bool x) ∧ Below w.heap.size w w' := by
  have HX := hid hx
  have HZ := hid hz
  have HQ := hid hzq
  have HTT := hid ht
  clear hx hz hzq ht
  have hB0 := below1 w (.cells #[.slice ao ts.length cap] 56)
  have X0 := hid (Bx.new (w := w) (p := w.heap.size) [.slice ao ts.length cap] 56 rfl)
  rcases hg : goodHB (ts.map valChan) with _ | _
  · have HG := hid hg
    have hG := specGoodH_is ao cap ts (w.alloc (.cells #[.slice ao ts.length cap] 56)) false hl HTT.out (HZ.out.later dChan_ok hB0) HG.out
    clear hg
    go_enter Try.func32, Try.ntmps32
    go_wp2_with fail
    refine hG.mono ?_
    rintro e w1 ⟨rfl, hb1⟩
    have hB1 := hB0.trans (hb1.mono hB0.size)
    clear hb1 hG hB0
    go_wp2
    all_goals go_ret
    all_goals exact ⟨ret_bool (by rw [← HX.out, goodQB_hub HG.out]), hB1⟩
  have HG := hid hg
  have hG := specGoodH_is ao cap ts (w.alloc (.cells #[.slice ao ts.length cap] 56)) true hl HTT.out (HZ.out.later dChan_ok hB0) HG.out
  clear hg
  by_cases h6 : 6 < l.length
  · have h6' : decide ((6 : Int) < (l.length : Int)) = true := by simp; omega
    have HN : Hid (x = false) := by rw [Hid, ← HX.out]; exact goodQB_long h6
    clear h6
    go_enter Try.func32, Try.ntmps32
    go_wp2_with fail
    refine hG.mono ?_
    rintro e w1 ⟨rfl, hb1⟩
    have hB1 := hB0.trans (hb1.mono hB0.size)
    clear hb1 hG hB0
    go_wp2
    all_goals go_ret
    all_goals exact ⟨ret_bool HN.out.symm, hB1⟩
  have h6' : decide ((6 : Int) < (l.length : Int)) = false := by simp; omega
  have h66 : l.length ≤ 6 := by omega
  clear h6
  go_enter Try.func32, Try.ntmps32
  go_wp2_with fail
  refine hG.mono ?_
  rintro e w1 ⟨rfl, hb1⟩
  have hB1 := hB0.trans (hb1.mono hB0.size)
  have X1 := hid (X0.out.later hb1)
  clear hb1 hG hB0 X0
  go_wp2
  go_loopw [19] (fun i wr => ∃ k : Nat, k ≤ l.length ∧ i = .int .i64 k ∧ Below w.heap.size w wr ∧ Hid (Bx wr w.heap.size [.slice ao ts.length cap]) ∧ Hid (∀ j, j < k → goodK (ts.map valChan).length (el l j) = true ∧ (l.take j).any (crossB (el l j)) = false)) (fun i _ => l.length - (intOf i).toNat)
  case atStart => exact ⟨0, Nat.zero_le _, rfl, hB1, X1, fun j hj => by omega⟩
  case round =>
    clear hB1 X1
    obtain ⟨k, hk, rfl, hB, hX, hno⟩ := hrel
    by_cases hlt : k < l.length
    · have HLT := hid hlt
      obtain ⟨b0, off, rfl, hb, hc⟩ := kQ_at HQ.out hlt
      have d1 := (hB.cell (p := ⟨b0, off + k * 3, none⟩) hb).trans (hc k hlt).1
      have d2 := (hB.cell (p := ⟨b0, off + k * 3 + 1, none⟩) hb).trans (hc k hlt).2.1
      have d3 := (hB.cell (p := ⟨b0, off + k * 3 + 2, none⟩) hb).trans (hc k hlt).2.2
      obtain ⟨⟨y1, y2, y3⟩, ey⟩ : ∃ v, v = el l k := ⟨_, rfl⟩
      rw [← ey] at d1 d2 d3
      have HE := hid ey
      clear ey hc
      dsimp only at d1 d2 d3
      have hpX := hX.out.size
      have x0 := hX.out.c 0 rfl
      have hkc : (k : Int) ≤ (qc : Int) := by omega
      have hkc' : k ≤ qc := by omega
      have YB := hid (Bx.new (w := wr) (p := wr.heap.size) [.int .i64 y1, .bool y2, .int .i64 y3] 117 rfl)
      have hBa := Below.allocS hB (.cells #[.int .i64 y1, .bool y2, .int .i64 y3] 117)
      have XA := hid (hX.out.alloc (.cells #[.int .i64 y1, .bool y2, .int .i64 y3] 117))
      rcases h5 : (decide (-1 ≤ y1) && decide (y1 ≤ (ts.length : Int) - 1)) with _ | _
      · have H5 := hid h5
        have HV : Hid (x = false) := by rw [Hid, ← HX.out]; exact goodQB_bad hlt (by rw [← HE.out, List.length_map]; exact goodK_1 h5)
        clear h5
        go_wp2_with fail
        refine (l1In_is y1 (-1) ((ts.length : Int) - 1) _ false H5.out).mono ?_
        rintro e w2 ⟨rfl, hw2⟩
        rw [hw2]; clear hw2 w2
        go_wp2
        go_ret
        exact ⟨ret_bool HV.out.symm, hBa⟩
      have H5 := hid h5
      have hy1 : -1 ≤ y1 := by simp at h5; exact h5.1
      clear h5
      rcases y2 with _ | _
      · rcases h7 : (y3 != 0) with _ | _
        · have HK := hid (goodK_3 (n := ts.length) (b := false) (c := y3) H5.out (.inr h7))
          go_wp2_with fail
          refine (l1In_is y1 (-1) ((ts.length : Int) - 1) _ true H5.out).mono ?_
          rintro e w2 ⟨rfl, hw2⟩
          rw [hw2]; clear hw2 w2
          go_wp2
          clear d1 d2 d3 x0
          go_loopw [46] (fun i wn => ∃ j : Nat, j ≤ k ∧ i = .int .i64 j ∧ Hid (∀ q, q < j → crossB (y1, false, y3) (el l q) = false) ∧ Hid (Bx wn w.heap.size [.slice ao ts.length cap]) ∧ Hid (Bx wn wr.heap.size [.int .i64 y1, .bool false, .int .i64 y3]) ∧ Below w.heap.size w wn) (fun i _ => k - (intOf i).toNat)
          case atStart => exact ⟨0, Nat.zero_le _, rfl, fun q hq => by omega, XA, YB, hBa⟩
          case round =>
            rename_i wn
            obtain ⟨j, hj, rfl, hcn, hX2, hY2, hB2⟩ := hrel
            by_cases hjk : j < k
            · have hjl : j < l.length := by omega
              obtain ⟨b2, off2, eb, hb2, hc2⟩ := kQ_at HQ.out hjl
              obtain ⟨rfl, rfl⟩ : b2 = b0 ∧ off2 = off := by simp at eb; exact ⟨eb.1.symm, eb.2.symm⟩
              clear eb
              have d1 := (hB2.cell (p := ⟨b2, off2 + j * 3, none⟩) hb2).trans (hc2 j hjl).1
              have d2 := (hB2.cell (p := ⟨b2, off2 + j * 3 + 1, none⟩) hb2).trans (hc2 j hjl).2.1
              have d3 := (hB2.cell (p := ⟨b2, off2 + j * 3 + 2, none⟩) hb2).trans (hc2 j hjl).2.2
              obtain ⟨⟨z1, z2, z3⟩, ez⟩ : ∃ v, v = el l j := ⟨_, rfl⟩
              rw [← ez] at d1 d2 d3
              have HZ2 := hid ez
              clear ez hc2
              dsimp only at d1 d2 d3
              have hyz := hY2.out.size
              have yy0 := hY2.out.c 0 rfl
              have yy1 := hY2.out.c 1 rfl
              have hB3 := Below.allocS hB2 (.cells #[.int .i64 z1, .bool z2, .int .i64 z3] 117)
              have hX3 := hid (hX2.out.alloc (.cells #[.int .i64 z1, .bool z2, .int .i64 z3] 117))
              have hY3 := hid (hY2.out.alloc (.cells #[.int .i64 z1, .bool z2, .int .i64 z3] 117))
              by_cases c1 : 0 ≤ y1
              · have c1' : decide (0 ≤ y1) = true := by simpa using c1
                rcases c2 : (z1 == y1) with _ | _
                · have HNC : Hid (crossB (y1, false, y3) (z1, z2, z3) = false) := by simp at c2; simp [Hid, crossB, c2]
                  go_wp2
                  go_roundw
                  case rel => exact ⟨j + 1, by omega, by go_num, fun q hq => by
                    rcases Nat.lt_succ_iff_lt_or_eq.1 hq with h | rfl
                    · exact hcn.out q h
                    · rw [← HZ2.out]; exact HNC.out, hX3, hY3, hB3⟩
                  case measure => simp [intOf]; omega
                · rcases z2 with _ | _
                  · have HNC : Hid (crossB (y1, false, y3) (z1, false, z3) = false) := by simp [Hid, crossB]
                    go_wp2
                    go_roundw
                    case rel => exact ⟨j + 1, by omega, by go_num, fun q hq => by
                      rcases Nat.lt_succ_iff_lt_or_eq.1 hq with h | rfl
                      · exact hcn.out q h
                      · rw [← HZ2.out]; exact HNC.out, hX3, hY3, hB3⟩
                    case measure => simp [intOf]; omega
                  · have HV : Hid (x = false) := by
                      rw [Hid, ← HX.out]
                      refine goodQB_cross HLT.out (any_some (by omega) hjk (by
                        rw [← HE.out, ← HZ2.out]
                        have e1 : z1 = y1 := by simpa using c2
                        simp [crossB, e1]; omega))
                    go_wp2
                    go_ret
                    exact ⟨ret_bool HV.out.symm, hB3⟩
              · have c1' : decide (0 ≤ y1) = false := by simpa using c1
                have HNC : Hid (crossB (y1, false, y3) (z1, z2, z3) = false) := by
                  have : y1 = -1 := by omega
                  simp [Hid, crossB, this]
                go_wp2
                go_roundw
                case rel => exact ⟨j + 1, by omega, by go_num, fun q hq => by
                  rcases Nat.lt_succ_iff_lt_or_eq.1 hq with h | rfl
                  · exact hcn.out q h
                  · rw [← HZ2.out]; exact HNC.out, hX3, hY3, hB3⟩
                case measure => simp [intOf]; omega
            · obtain rfl : j = k := by omega
              have HC := hid (any_none (p := crossB (y1, false, y3)) (by omega : j ≤ l.length) hcn.out)
              clear hcn
              go_wp2
              go_roundw
              case rel => exact ⟨j + 1, by omega, by go_num, hB2, hX2, fun q hq => by
                rcases Nat.lt_succ_iff_lt_or_eq.1 hq with h | rfl
                · exact hno.out q h
                · rw [← HE.out, List.length_map]; exact ⟨HK.out, HC.out⟩⟩
              case measure => simp [intOf]; omega
        · have HV : Hid (x = false) := by rw [Hid, ← HX.out]; exact goodQB_bad hlt (by rw [← HE.out, List.length_map]; exact goodK_2 h7)
          go_wp2_with fail
          refine (l1In_is y1 (-1) ((ts.length : Int) - 1) _ true H5.out).mono ?_
          rintro e w2 ⟨rfl, hw2⟩
          rw [hw2]; clear hw2 w2
          go_wp2
          go_ret
          exact ⟨ret_bool HV.out.symm, hBa⟩
      · have HK := hid (goodK_3 (n := ts.length) (b := true) (c := y3) H5.out (.inl rfl))
        go_wp2_with fail
        refine (l1In_is y1 (-1) ((ts.length : Int) - 1) _ true H5.out).mono ?_
        rintro e w2 ⟨rfl, hw2⟩
        rw [hw2]; clear hw2 w2
        go_wp2
        clear d1 d2 d3 x0
        go_loopw [46] (fun i wn => ∃ j : Nat, j ≤ k ∧ i = .int .i64 j ∧ Hid (∀ q, q < j → crossB (y1, true, y3) (el l q) = false) ∧ Hid (Bx wn w.heap.size [.slice ao ts.length cap]) ∧ Hid (Bx wn wr.heap.size [.int .i64 y1, .bool true, .int .i64 y3]) ∧ Below w.heap.size w wn) (fun i _ => k - (intOf i).toNat)
        case atStart => exact ⟨0, Nat.zero_le _, rfl, fun q hq => by omega, XA, YB, hBa⟩
        case round =>
          rename_i wn
          obtain ⟨j, hj, rfl, hcn, hX2, hY2, hB2⟩ := hrel
          by_cases hjk : j < k
          · have hjl : j < l.length := by omega
            obtain ⟨b2, off2, eb, hb2, hc2⟩ := kQ_at HQ.out hjl
            obtain ⟨rfl, rfl⟩ : b2 = b0 ∧ off2 = off := by simp at eb; exact ⟨eb.1.symm, eb.2.symm⟩
            clear eb
            have d1 := (hB2.cell (p := ⟨b2, off2 + j * 3, none⟩) hb2).trans (hc2 j hjl).1
            have d2 := (hB2.cell (p := ⟨b2, off2 + j * 3 + 1, none⟩) hb2).trans (hc2 j hjl).2.1
            have d3 := (hB2.cell (p := ⟨b2, off2 + j * 3 + 2, none⟩) hb2).trans (hc2 j hjl).2.2
            obtain ⟨⟨z1, z2, z3⟩, ez⟩ : ∃ v, v = el l j := ⟨_, rfl⟩
            rw [← ez] at d1 d2 d3
            have HZ2 := hid ez
            clear ez hc2
            dsimp only at d1 d2 d3
            have hyz := hY2.out.size
            have yy0 := hY2.out.c 0 rfl
            have yy1 := hY2.out.c 1 rfl
            have hB3 := Below.allocS hB2 (.cells #[.int .i64 z1, .bool z2, .int .i64 z3] 117)
            have hX3 := hid (hX2.out.alloc (.cells #[.int .i64 z1, .bool z2, .int .i64 z3] 117))
            have hY3 := hid (hY2.out.alloc (.cells #[.int .i64 z1, .bool z2, .int .i64 z3] 117))
            by_cases c1 : 0 ≤ y1
            · have c1' : decide (0 ≤ y1) = true := by simpa using c1
              rcases c2 : (z1 == y1) with _ | _
              · have HNC : Hid (crossB (y1, true, y3) (z1, z2, z3) = false) := by simp at c2; simp [Hid, crossB, c2]
                go_wp2
                go_roundw
                case rel => exact ⟨j + 1, by omega, by go_num, fun q hq => by
                  rcases Nat.lt_succ_iff_lt_or_eq.1 hq with h | rfl
                  · exact hcn.out q h
                  · rw [← HZ2.out]; exact HNC.out, hX3, hY3, hB3⟩
                case measure => simp [intOf]; omega
              · rcases z2 with _ | _
                · have HV : Hid (x = false) := by
                    rw [Hid, ← HX.out]
                    refine goodQB_cross HLT.out (any_some (by omega) hjk (by
                      rw [← HE.out, ← HZ2.out]
                      have e1 : z1 = y1 := by simpa using c2
                      simp [crossB, e1]; omega))
                  go_wp2
                  go_ret
                  exact ⟨ret_bool HV.out.symm, hB3⟩
                · have HNC : Hid (crossB (y1, true, y3) (z1, true, z3) = false) := by simp [Hid, crossB]
                  go_wp2
                  go_roundw
                  case rel => exact ⟨j + 1, by omega, by go_num, fun q hq => by
                    rcases Nat.lt_succ_iff_lt_or_eq.1 hq with h | rfl
                    · exact hcn.out q h
                    · rw [← HZ2.out]; exact HNC.out, hX3, hY3, hB3⟩
                  case measure => simp [intOf]; omega
            · have c1' : decide (0 ≤ y1) = false := by simpa using c1
              have HNC : Hid (crossB (y1, true, y3) (z1, z2, z3) = false) := by
                have : y1 = -1 := by omega
                simp [Hid, crossB, this]
              go_wp2
              go_roundw
              case rel => exact ⟨j + 1, by omega, by go_num, fun q hq => by
                rcases Nat.lt_succ_iff_lt_or_eq.1 hq with h | rfl
                · exact hcn.out q h
                · rw [← HZ2.out]; exact HNC.out, hX3, hY3, hB3⟩
              case measure => simp [intOf]; omega
          · obtain rfl : j = k := by omega
            have HC := hid (any_none (p := crossB (y1, true, y3)) (by omega : j ≤ l.length) hcn.out)
            clear hcn
            go_wp2
            go_roundw
            case rel => exact ⟨j + 1, by omega, by go_num, hB2, hX2, fun q hq => by
              rcases Nat.lt_succ_iff_lt_or_eq.1 hq with h | rfl
              · exact hno.out q h
              · rw [← HE.out, List.length_map]; exact ⟨HK.out, HC.out⟩⟩
            case measure => simp [intOf]; omega
    · obtain rfl : k = l.length := by omega
      go_wp2
      go_ret
      exact ⟨ret_bool (by rw [← HX.out, goodQB_yes HG.out h66 hno.out]), hB⟩
end Go.Proofs.Ytlnjhajdbofhlaa
