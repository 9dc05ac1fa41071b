
/- The contracts of MostPassed, the program's and the specification's. No conditions but those written. -/
import Derived.Test.YtgbnbnjfaffaiaaOWi
import Derived.Test.YtgbnbnjfaffaiaaOWc
import Derived.Test.YtgbnbnjfaffaiaaOPc
namespace Go.Proofs.Ytgbnbnjfaffaiaa.Old
open Go.RowKit

/-- What MostPassed answers. -/
def mostV (ts : List (Int × Int)) (q : List Int) : Value := if specGoodB ts q = true then .tuple #[.int .i64 (mostP ts), .bool true] else .tuple #[.int .i64 0, .bool false]

set_option maxHeartbeats 2000000 in
theorem implMost_any (ao : Option Addr) (cap : Nat) (ts : List (Int × Int)) (qo : Option Addr) (qcap : Nat) (q : List Int) (w : World) (hl : ts.length ≤ 1048576) (hz : TasksIn w.heap.size w ao ts) (hq : IntsIn w.heap.size w qo q) :
    Calls Try.prog 10 #[.agg #[.slice ao ts.length cap, .slice qo q.length qcap]] w fun e w' => e = .returned (mostV ts q) ∧ Below w.heap.size w w' := by
  have HV : Hid (mostV ts q = if specGoodB ts q = true then .tuple #[.int .i64 (mostP ts), .bool true] else .tuple #[.int .i64 0, .bool false]) := rfl
  go_enter Try.func10, Try.ntmps10
  go_wp2_with fail
  refine (implGood_any ao cap ts qo qcap q _ hl (hz.later (below1 _ _)) (hq.later (below1 _ _))).mono ?_
  rintro e w1 ⟨rfl, hb1⟩
  have hB1 := (below1 w (.cells #[.slice ao ts.length cap, .slice qo q.length qcap] 26)).trans (hb1.mono (by simp))
  have c0 : w1.cell? ⟨w.heap.size, 0, none⟩ = some (.slice ao ts.length cap) := (hb1.cell (p := ⟨w.heap.size, 0, none⟩) (by simp)).trans (by simp [go_sem])
  cases hg : specGoodB ts q
  · have HF : Hid (mostV ts q = .tuple #[.int .i64 0, .bool false]) := by rw [Hid, HV.out, hg]; rfl
    clear hg
    go_wp2
    go_ret2
    rw [HF.out]
    exact ⟨rfl, hB1⟩
  · have HF : Hid (mostV ts q = .tuple #[.int .i64 (mostP ts), .bool true]) := by rw [Hid, HV.out, hg]; rfl
    clear hg
    go_wp2
    go_loopw [4, 13] (fun r i wr => ∃ k : Nat, k ≤ ts.length ∧ i = .int .i64 k ∧ r = .int .i64 (mostP (ts.take k)) ∧ Below w.heap.size w wr) (fun _ i _ => ts.length - (intOf i).toNat)
    case atStart => exact ⟨0, Nat.zero_le _, rfl, by simp [mostP], hB1⟩
    case round =>
      obtain ⟨k, hk, rfl, rfl, hnx⟩ := hrel
      by_cases hlt : k < ts.length
      · obtain ⟨b, off, rfl, hb, hc⟩ := hz.pos hlt
        have hck1 := (hnx.cell (p := ⟨b, off + k * 2, none⟩) hb).trans (hc k hlt).1
        have hck2 := (hnx.cell (p := ⟨b, off + k * 2 + 1, none⟩) hb).trans (hc k hlt).2
        have hM := mostP_snoc ts k hlt
        clear hc hz
        generalize (ts[k]?.getD (0, 0)).1 = s at *
        generalize (ts[k]?.getD (0, 0)).2 = p at *
        generalize mostP (ts.take k) = mk at *
        have HM : Hid (mostP (ts.take (k + 1)) = if mk < p then p else mk) := hM
        clear hM
        by_cases hmp : mk < p
        · have HM2 : Hid (mostP (ts.take (k + 1)) = p) := by rw [Hid, HM.out, if_pos hmp]
          go_wp2
          go_roundw
          case rel => exact ⟨k + 1, by omega, by go_num, by rw [HM2.out], hnx.alloc hnx.size _⟩
          case measure => simp [intOf]; omega
        · have HM2 : Hid (mostP (ts.take (k + 1)) = mk) := by rw [Hid, HM.out, if_neg hmp]
          go_wp2
          go_roundw
          case rel => exact ⟨k + 1, by omega, by go_num, by rw [HM2.out], hnx.alloc hnx.size _⟩
          case measure => simp [intOf]; omega
      · obtain rfl : k = ts.length := by omega
        rw [List.take_length]
        go_wp2
        go_ret2
        rw [HF.out]
        exact ⟨rfl, hnx⟩
theorem mostV_form (ts : List (Int × Int)) (q : List Int) : ∃ m b, mostV ts q = .tuple #[.int .i64 m, .bool b] := by
  unfold mostV; split
  · exact ⟨_, _, rfl⟩
  · exact ⟨_, _, rfl⟩
end Go.Proofs.Ytgbnbnjfaffaiaa.Old
