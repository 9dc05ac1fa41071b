
/- The contract of impl.GoodClock. No conditions but those written. -/
import Derived.Test.YtpbgkkemaioidaaOCa
namespace Go.Proofs.Ytpbgkkemaioidaa.Old
open Go.RowKit

set_option maxHeartbeats 4000000 in
theorem goodTimer_any (now sq : Int) (ao : Option Addr) (cap : Nat) (ts : List T3) (k : Nat) (w : World) (hk : k < ts.length) (hl : ts.length ≤ 1048576) (hcap : ts.length ≤ cap) (hz : TimersIn w.heap.size w ao ts) :
    Calls Try.prog 25 #[.agg #[.int .i64 now, .int .i64 sq, .slice ao ts.length cap], .int .i64 (k : Int)] w fun e w' => e = .returned (.bool (rowB now sq ts k)) ∧ Below w.heap.size w w' := by
  have hz0 := hz
  obtain ⟨b, off, rfl, hb, hc⟩ := hz.pos hk
  obtain ⟨ck1, ck2, ck3⟩ := hc k hk
  have HC : Hid (∀ j, j < ts.length → w.cell? ⟨b, off + j * 3, none⟩ = some (.int .i64 (t3 ts j).1) ∧ w.cell? ⟨b, off + j * 3 + 1, none⟩ = some (.int .i64 (t3 ts j).2.1) ∧ w.cell? ⟨b, off + j * 3 + 2, none⟩ = some (.int .i64 (t3 ts j).2.2)) := hc
  have HZ : Hid (TimersIn w.heap.size w (some ⟨b, off, none⟩) ts) := hz0
  have hkc : (k : Int) ≤ (cap : Int) := by omega
  have hki : (k : Int) < (ts.length : Int) := by omega
  clear hc hz hz0 hcap
  have hrow : ∀ r, Hid (rowB now sq ts k = r) → Hid (rowB now sq ts k = r) := fun _ h => h
  obtain ⟨⟨x1, x2, x3⟩, ex⟩ : ∃ v, v = t3 ts k := ⟨_, rfl⟩
  rw [← ex] at ck1 ck2 ck3
  have HX : Hid (t3 ts k = (x1, x2, x3)) := ex.symm
  clear ex hrow
  dsimp only at ck1 ck2 ck3
  by_cases h1 : x2 < now
  · have HF : Hid (rowB now sq ts k = false) := rowB_at _ _ _ _ (.inl (by rw [HX.out]; exact h1))
    go_enter Try.func25, Try.ntmps25
    go_wp2
    go_ret
    exact ⟨ret_bool HF.out.symm, below2 _ _ _⟩
  have h1' : decide (x2 < now) = false := by simpa using h1
  by_cases h2 : x3 < 1
  · have HF : Hid (rowB now sq ts k = false) := rowB_at _ _ _ _ (.inr (.inl (by rw [HX.out]; exact h2)))
    go_enter Try.func25, Try.ntmps25
    go_wp2
    go_ret
    exact ⟨ret_bool HF.out.symm, below2 _ _ _⟩
  have h2' : decide (x3 < 1) = false := by simpa using h2
  by_cases h3 : sq < x3
  · have HF : Hid (rowB now sq ts k = false) := rowB_at _ _ _ _ (.inr (.inr (by rw [HX.out]; exact h3)))
    go_enter Try.func25, Try.ntmps25
    go_wp2
    go_ret
    exact ⟨ret_bool HF.out.symm, below2 _ _ _⟩
  have h3' : decide (sq < x3) = false := by simpa using h3
  have HE : Hid ((∀ j, j < k → clashB (t3 ts j) (t3 ts k) = false) → rowB now sq ts k = (decide (k = 0) || beforeB (t3 ts (k - 1)) (t3 ts k))) := by
    intro hc
    have : (List.range k).all (fun j => !clashB (t3 ts j) (t3 ts k)) = true := by
      rw [List.all_eq_true]; intro j hj; simp [hc j (List.mem_range.1 hj)]
    have e1 : now ≤ x2 := by omega
    have e2 : 1 ≤ x3 := by omega
    have e3 : x3 ≤ sq := by omega
    unfold rowB
    rw [this, HX.out]
    simp only [e1, e2, e3, decide_true, Bool.and_self, Bool.true_and]
  go_enter Try.func25, Try.ntmps25
  go_wp2
  go_loopw [35] (fun i wr => ∃ j : Nat, j ≤ k ∧ i = .int .i64 j ∧ Hid (∀ j', j' < j → clashB (t3 ts j') (t3 ts k) = false) ∧ Below (w.heap.size + 1 + 1) ((w.alloc (.cells #[.int .i64 now, .int .i64 sq, .slice (some ⟨b, off, none⟩) ts.length cap] 25)).alloc (.cells #[.int .i64 x1, .int .i64 x2, .int .i64 x3] 49)) wr) (fun i _ => k - (intOf i).toNat)
  case atStart => exact ⟨0, Nat.zero_le _, rfl, fun j hj => by omega, Below.refl _ _⟩
  case round =>
    obtain ⟨j, hj, rfl, hno, hnx⟩ := hrel
    have hsz := hnx.size
    simp only [World.size_alloc] at hsz
    have hbx : wr.cell? ⟨w.heap.size, 0, none⟩ = some (.int .i64 now) ∧ wr.cell? ⟨w.heap.size, 1, none⟩ = some (.int .i64 sq) ∧ wr.cell? ⟨w.heap.size, 2, none⟩ = some (.slice (some ⟨b, off, none⟩) ts.length cap) :=
      ⟨(hnx.cell (p := ⟨w.heap.size, 0, none⟩) (by simp; omega)).trans (by simp), (hnx.cell (p := ⟨w.heap.size, 1, none⟩) (by simp; omega)).trans (by simp), (hnx.cell (p := ⟨w.heap.size, 2, none⟩) (by simp; omega)).trans (by simp)⟩
    obtain ⟨hbx0, hbx1, hbx2⟩ := hbx
    have ht1 : wr.cell? ⟨w.heap.size + 1, 0, none⟩ = some (.int .i64 x1) := (hnx.cell (p := ⟨w.heap.size + 1, 0, none⟩) (by simp)).trans (by simp)
    have ht3 : wr.cell? ⟨w.heap.size + 1, 2, none⟩ = some (.int .i64 x3) := (hnx.cell (p := ⟨w.heap.size + 1, 2, none⟩) (by simp)).trans (by simp)
    have hB : Below w.heap.size w wr := (below2 w _ _).trans (hnx.mono (by omega))
    have hlt0 : w.heap.size < wr.heap.size := by omega
    have hlt1 : w.heap.size + 1 < wr.heap.size := by omega
    by_cases hlt : j < k
    · obtain ⟨c1, c2, c3⟩ := HC.out j (by omega)
      have d1 := (hB.cell (p := ⟨b, off + j * 3, none⟩) hb).trans c1
      have d2 := (hB.cell (p := ⟨b, off + j * 3 + 1, none⟩) hb).trans c2
      have d3 := (hB.cell (p := ⟨b, off + j * 3 + 2, none⟩) hb).trans c3
      obtain ⟨⟨y1, y2, y3⟩, ey⟩ : ∃ v, v = t3 ts j := ⟨_, rfl⟩
      rw [← ey] at d1 d2 d3
      have HY : Hid (t3 ts j = (y1, y2, y3)) := ey.symm
      clear ey c1 c2 c3
      dsimp only at d1 d2 d3
      by_cases hid : y1 = x1
      · have hid' : (y1 == x1) = true := by simpa using hid
        have HF : Hid (rowB now sq ts k = false) := rowB_clash _ _ _ k j hlt (by rw [HX.out, HY.out]; simp [clashB, hid])
        clear hid
        go_wp2
        go_ret
        exact ⟨ret_bool HF.out.symm, hB.alloc (by omega) _⟩
      have hid' : (y1 == x1) = false := by simpa using hid
      by_cases hsq : y3 = x3
      · have hsq' : (y3 == x3) = true := by simpa using hsq
        have HF : Hid (rowB now sq ts k = false) := rowB_clash _ _ _ k j hlt (by rw [HX.out, HY.out]; simp [clashB, hsq])
        clear hid hsq
        go_wp2
        go_ret
        exact ⟨ret_bool HF.out.symm, hB.alloc (by omega) _⟩
      have hsq' : (y3 == x3) = false := by simpa using hsq
      have HN : Hid (clashB (t3 ts j) (t3 ts k) = false) := by rw [HX.out, HY.out]; simp [Hid, clashB, hid, hsq]
      clear hid hsq
      go_wp2
      go_roundw
      case rel => exact ⟨j + 1, by omega, by go_num, fun j' hj' => by
        rcases Nat.lt_succ_iff_lt_or_eq.1 hj' with h | rfl
        · exact hno.out j' h
        · exact HN.out, hnx.alloc (by omega) _⟩
      case measure => simp [intOf]; omega
    · obtain rfl : j = k := by omega
      have HR := HE.out hno.out
      by_cases hk0 : j = 0
      · subst hk0
        have HT : Hid (rowB now sq ts 0 = true) := by rw [Hid, HR]; rfl
        clear HR
        go_wp2
        go_ret
        exact ⟨ret_bool HT.out.symm, hB⟩
      · have hk0' : ((j : Int) == 0) = false := by simp; omega
        have HT : Hid (rowB now sq ts j = beforeB (t3 ts (j - 1)) (t3 ts j)) := by rw [Hid, HR]; simp [hk0]
        have hj1 : (j : Int) - 1 = ((j - 1 : Nat) : Int) := by omega
        clear HR
        go_wp2_with fail
        refine (fires_any now sq _ cap ts (j - 1) j wr (by omega) hk (HZ.out.later hB)).mono ?_
        rintro e w1 ⟨rfl, hb1⟩
        have hB1 := hB.trans (hb1.mono hB.size)
        go_wp2
        go_ret
        exact ⟨ret_bool HT.out.symm, hB1⟩

set_option maxHeartbeats 2000000 in
theorem implGood_any (now sq : Int) (ao : Option Addr) (cap : Nat) (ts : List T3) (w : World) (hl : ts.length ≤ 1048576) (hcap : ts.length ≤ cap) (hz : TimersIn w.heap.size w ao ts) :
    Calls Try.prog 14 #[.agg #[.int .i64 now, .int .i64 sq, .slice ao ts.length cap]] w fun e w' => e = .returned (.bool (goodB now sq ts)) ∧ Below w.heap.size w w' := by
  by_cases h1 : now < 0
  · have HF : Hid (goodB now sq ts = false) := goodB_head _ _ _ (.inl h1)
    go_enter Try.func14, Try.ntmps14
    go_wp2
    go_ret
    exact ⟨ret_bool HF.out.symm, below1 _ _⟩
  have h1' : decide (now < 0) = false := by simpa using h1
  by_cases h2 : sq < 0
  · have HF : Hid (goodB now sq ts = false) := goodB_head _ _ _ (.inr (.inl h2))
    go_enter Try.func14, Try.ntmps14
    go_wp2
    go_ret
    exact ⟨ret_bool HF.out.symm, below1 _ _⟩
  have h2' : decide (sq < 0) = false := by simpa using h2
  by_cases h3 : 1000000 < sq
  · have HF : Hid (goodB now sq ts = false) := goodB_head _ _ _ (.inr (.inr (.inl h3)))
    go_enter Try.func14, Try.ntmps14
    go_wp2
    go_ret
    exact ⟨ret_bool HF.out.symm, below1 _ _⟩
  have h3' : decide (1000000 < sq) = false := by simpa using h3
  by_cases h4 : 30 < ts.length
  · have HF : Hid (goodB now sq ts = false) := goodB_head _ _ _ (.inr (.inr (.inr h4)))
    go_enter Try.func14, Try.ntmps14
    go_wp2
    go_ret
    exact ⟨ret_bool HF.out.symm, below1 _ _⟩
  have h4' : decide ((30 : Int) < (ts.length : Int)) = false := by simp; omega
  go_enter Try.func14, Try.ntmps14
  go_wp2
  go_loopw [26] (fun i wr => ∃ j : Nat, j ≤ ts.length ∧ i = .int .i64 j ∧ Hid (∀ j', j' < j → rowB now sq ts j' = true) ∧ Below (w.heap.size + 1) (w.alloc (.cells #[.int .i64 now, .int .i64 sq, .slice ao ts.length cap] 25)) wr) (fun i _ => ts.length - (intOf i).toNat)
  case atStart => exact ⟨0, Nat.zero_le _, rfl, fun j hj => by omega, Below.refl _ _⟩
  case round =>
    obtain ⟨j, hj, rfl, hno, hnx⟩ := hrel
    have hsz := hnx.size
    simp only [World.size_alloc] at hsz
    have hbx0 : wr.cell? ⟨w.heap.size, 0, none⟩ = some (.int .i64 now) := (hnx.cell (p := ⟨w.heap.size, 0, none⟩) (by simp)).trans (by simp)
    have hbx1 : wr.cell? ⟨w.heap.size, 1, none⟩ = some (.int .i64 sq) := (hnx.cell (p := ⟨w.heap.size, 1, none⟩) (by simp)).trans (by simp)
    have hbx2 : wr.cell? ⟨w.heap.size, 2, none⟩ = some (.slice ao ts.length cap) := (hnx.cell (p := ⟨w.heap.size, 2, none⟩) (by simp)).trans (by simp)
    have hB : Below w.heap.size w wr := (below1 w _).trans (hnx.mono (by omega))
    by_cases hlt : j < ts.length
    · cases hr : rowB now sq ts j
      · have HR : Hid (rowB now sq ts j = false) := hr
        have HF : Hid (goodB now sq ts = false) := goodB_row _ _ _ j hlt hr
        clear hr
        go_wp2_with fail
        refine (goodTimer_any now sq ao cap ts j wr hlt hl hcap (hz.later hB)).mono ?_
        rintro e w1 ⟨rfl, hb1⟩
        rw [HR.out]
        have hB1 := hB.trans (hb1.mono hB.size)
        go_wp2
        go_ret
        exact ⟨ret_bool HF.out.symm, hB1⟩
      · have HR : Hid (rowB now sq ts j = true) := hr
        clear hr
        go_wp2_with fail
        refine (goodTimer_any now sq ao cap ts j wr hlt hl hcap (hz.later hB)).mono ?_
        rintro e w1 ⟨rfl, hb1⟩
        rw [HR.out]
        have hn1 := hnx.trans (hb1.mono hsz)
        clear hb1
        go_wp2
        go_roundw
        case rel => exact ⟨j + 1, by omega, by go_num, fun j' hj' => by
          rcases Nat.lt_succ_iff_lt_or_eq.1 hj' with h | rfl
          · exact hno.out j' h
          · exact HR.out, hn1⟩
        case measure => simp [intOf]; omega
    · obtain rfl : j = ts.length := by omega
      have HT : Hid (goodB now sq ts = true) := goodB_end _ _ _ (by omega) (by omega) (by omega) (by omega) hno.out
      go_wp2
      go_ret
      exact ⟨ret_bool HT.out.symm, hB⟩
end Go.Proofs.Ytpbgkkemaioidaa.Old
