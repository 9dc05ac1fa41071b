
/- The draws' cursor: any number. No conditions but those written. -/
import Derived.Test.YtimkadnnhfllnaaXb
namespace Go.Proofs.Ytimkadnnhfllnaa
open Go.RowKit

theorem in_wrap (n : Int) : -9223372036854775808 ≤ wrap64 n ∧ wrap64 n ≤ 9223372036854775807 := by unfold wrap64; omega
theorem in_wrapI (n : Int) : -9223372036854775808 ≤ IntKind.i64.wrap n ∧ IntKind.i64.wrap n ≤ 9223372036854775807 := by
  have : IntKind.i64.wrap n = (n + 9223372036854775808) % 18446744073709551616 - 9223372036854775808 := by
    simp [IntKind.wrap, IntKind.bits, IntKind.signed]; omega
  rw [this]; omega
theorem in_bits (op : BinOp) (x y : Int) : -9223372036854775808 ≤ bits op IntKind.i64 x y ∧ bits op IntKind.i64 x y ≤ 9223372036854775807 := by
  unfold bits
  exact in_wrapI _
theorem in_quo {x : Int} (k : Nat) (h : -9223372036854775808 ≤ x ∧ x ≤ 9223372036854775807) : -9223372036854775808 ≤ x / 2 ^ k ∧ x / 2 ^ k ≤ 9223372036854775807 := by
  have hp : (0 : Int) < 2 ^ k := Int.pow_pos (by decide)
  have h1 : (1 : Int) ≤ 2 ^ k := by omega
  constructor
  · refine (Int.le_ediv_iff_mul_le hp).2 ?_
    have : (-9223372036854775808 : Int) * 2 ^ k ≤ (-9223372036854775808 : Int) * 1 := Int.mul_le_mul_of_nonpos_left (by decide) h1
    omega
  · have : x / 2 ^ k ≤ max x 0 := by
      by_cases hx : 0 ≤ x
      · exact Int.le_trans (Int.ediv_le_self _ hx) (by omega)
      · have : x / 2 ^ k < 0 := Int.ediv_lt_of_lt_mul hp (by omega)
        omega
    omega
set_option maxRecDepth 10000 in
set_option maxHeartbeats 2000000 in
theorem wide_any (p : Nat) (co : Option Addr) (cap : Nat) (bs : List Int) (k : Nat) (sd : Int) (w : World) (hl : bs.length ≤ 9223372036854775807) (ha : k ≤ 1099511627700) (hC : Cur w p co cap bs k sd) :
    Calls Try.prog 31 #[.pointer (some ⟨p, 0, none⟩)] w fun e w' => (∃ x, e = .returned (.int .i64 x) ∧ (-9223372036854775808 ≤ x ∧ x ≤ 9223372036854775807)) ∧ Drawn w p co cap bs k 8 w' := by
  go_enter Try.func31, Try.ntmps31
  go_wp2
  go_loopw [3, 4] (fun n i wr => ∃ (j : Nat) (v : Int), j ≤ 8 ∧ (-9223372036854775808 ≤ v ∧ v ≤ 9223372036854775807) ∧ n = .int .i64 v ∧ i = .int .i64 j ∧ Hid (Drawn w p co cap bs k j wr)) (fun n i wr => 8 - (intOf i).toNat)
  case atStart => exact ⟨0, 0, by omega, by omega, rfl, rfl, k, sd, by omega, hC, OnlyAt.refl _ _⟩
  case round =>
    obtain ⟨j, v, hj, hv, rfl, rfl, hD⟩ := hrel
    by_cases h8 : j < 8
    · have h8' : decide ((j : Int) < 8) = true := by simp; omega
      obtain ⟨k', sd', hk', C', O'⟩ := hD.out
      go_wp2_with fail
      refine (next_any p co cap bs k' sd' _ hl (by omega) C').mono ?_
      rintro e w1 ⟨x, sd1, rfl, ⟨x0, x1⟩, C1, O1⟩
      go_wp2
      go_roundw
      case rel =>
        refine ⟨j + 1, _, by omega, ?_, rfl, by go_num, k' + 1, sd1, by omega, C1, O'.trans O1⟩
        exact in_bits _ _ _
      case measure => simp [intOf]; omega
    · have h8' : decide ((j : Int) < 8) = false := by simp; omega
      obtain rfl : j = 8 := by omega
      go_wp2
      go_ret
      exact ⟨⟨_, rfl, hv⟩, hD.out⟩
end Go.Proofs.Ytimkadnnhfllnaa
