
/- The draws' cursor: any number. No conditions but those written. -/
import Derived.Test.YtgbnbnjfaffaiaaXb
namespace Go.Proofs.Ytgbnbnjfaffaiaa
open Go.RowKit

set_option maxRecDepth 10000 in
set_option maxHeartbeats 2000000 in
theorem wide_any (p : Nat) (co : Option Addr) (cap : Nat) (bs : List Int) (k : Nat) (sd : Int) (w : World) (hl : bs.length ≤ 9223372036854775807) (ha : k ≤ 1099511627700) (hC : Cur w p co cap bs k sd) :
    Calls Try.prog 38 #[.pointer (some ⟨p, 0, none⟩)] w fun e w' => (∃ x, e = .returned (.int .i64 x)) ∧ Drawn w p co cap bs k 8 w' := by
  go_enter Try.func38, Try.ntmps38
  go_wp2
  go_loopw [3, 4] (fun n i wr => ∃ (j : Nat) (v : Int), j ≤ 8 ∧ n = .int .i64 v ∧ i = .int .i64 j ∧ Hid (Drawn w p co cap bs k j wr)) (fun n i wr => 8 - (intOf i).toNat)
  case atStart => exact ⟨0, 0, by omega, rfl, rfl, k, sd, by omega, hC, OnlyAt.refl _ _⟩
  case round =>
    obtain ⟨j, v, hj, rfl, rfl, hD⟩ := hrel
    by_cases h8 : j < 8
    · have h8' : decide ((j : Int) < 8) = true := by simp; omega
      obtain ⟨k', sd', hk', C', O'⟩ := hD.out
      go_wp2_with fail
      refine (next_any p co cap bs k' sd' _ hl (by omega) C').mono ?_
      rintro e w1 ⟨x, sd1, rfl, ⟨x0, x1⟩, C1, O1⟩
      go_wp2
      go_roundw
      case rel => exact ⟨j + 1, _, by omega, rfl, by go_num, k' + 1, sd1, by omega, C1, O'.trans O1⟩
      case measure => simp [intOf]; omega
    · have h8' : decide ((j : Int) < 8) = false := by simp; omega
      obtain rfl : j = 8 := by omega
      go_wp2
      go_ret
      exact ⟨⟨_, rfl⟩, hD.out⟩
end Go.Proofs.Ytgbnbnjfaffaiaa
