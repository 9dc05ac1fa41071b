
/- The draws' cursor: a number of any size. No conditions but those written. -/
import Derived.Test.YtimkadnnhfllnaaXc
namespace Go.Proofs.Ytimkadnnhfllnaa
open Go.RowKit

set_option maxRecDepth 10000 in
set_option maxHeartbeats 4000000 in
theorem sized_any (p : Nat) (co : Option Addr) (cap : Nat) (bs : List Int) (k : Nat) (sd : Int) (w : World) (hl : bs.length ≤ 9223372036854775807) (ha : k ≤ 1099511627600) (hC : Cur w p co cap bs k sd) :
    Calls Try.prog 13 #[.pointer (some ⟨p, 0, none⟩)] w fun e w' => (∃ x, e = .returned (.int .i64 x) ∧ (-9223372036854775808 ≤ x ∧ x ≤ 9223372036854775807)) ∧ Drawn w p co cap bs k 20 w' := by
  go_enter Try.func13, Try.ntmps13
  go_wp2_with fail
  refine (pick_any 5 p co cap bs k sd _ hl (by omega) hC).mono ?_
  rintro e w1 ⟨⟨y1, rfl, p1, q1⟩, ⟨k1, sd1, hk1, C1, O1⟩⟩
  go_wp2_with fail
  refine (pick_any 8 p co cap bs k1 sd1 _ hl (by omega) C1).mono ?_
  rintro e w2 ⟨⟨y2, rfl, p2, q2⟩, ⟨k2, sd2, hk2, C2, O2⟩⟩
  by_cases h0 : y2 = 0
  · have e0 : (y2 == 0) = true := by simp; omega
    clear h0
    go_wp2_with fail
    refine (pick_any 300 p co cap bs k2 sd2 _ hl (by omega) C2).mono ?_
    rintro e w3 ⟨⟨y3, rfl, p3, q3⟩, ⟨k3, sd3, hk3, C3, O3⟩⟩
    go_wp2_with fail
    refine (one_any 3 p co cap bs k3 sd3 _ hl (by omega) C3).mono ?_
    rintro e w9 ⟨⟨b9, rfl⟩, ⟨k9, sd9, hk9, C9, O9⟩⟩
    have hO := (((O1).trans O2).trans O3).trans O9
    cases b9
    · go_wp2
      go_ret
      exact ⟨⟨_, rfl, by first | omega | exact in_wrap _ | exact in_wrapI _ | exact in_quo _ hv3⟩, k9, sd9, by omega, C9, hO⟩
    · go_wp2
      go_ret
      exact ⟨⟨_, rfl, by first | omega | exact in_wrap _ | exact in_wrapI _ | exact in_quo _ hv3⟩, k9, sd9, by omega, C9, hO⟩
  by_cases h1 : y2 = 1
  · have e0 : (y2 == 0) = false := by simp; omega
    have e1 : (y2 == 1) = true := by simp; omega
    clear h1
    go_wp2_with fail
    refine (wide_any p co cap bs k2 sd2 _ hl (by omega) C2).mono ?_
    rintro e w3 ⟨⟨y3, rfl, hv3⟩, ⟨k3, sd3, hk3, C3, O3⟩⟩
    go_wp2_with fail
    refine (pick_any 64 p co cap bs k3 sd3 _ hl (by omega) C3).mono ?_
    rintro e w4 ⟨⟨y4, rfl, p4, q4⟩, ⟨k4, sd4, hk4, C4, O4⟩⟩
    have hc : IntKind.u64.wrap y4 = y4 := by simp [IntKind.wrap, IntKind.bits, IntKind.signed]; omega
    go_wp2_with fail
    refine (one_any 3 p co cap bs k4 sd4 _ hl (by omega) C4).mono ?_
    rintro e w9 ⟨⟨b9, rfl⟩, ⟨k9, sd9, hk9, C9, O9⟩⟩
    have hO := ((((O1).trans O2).trans O3).trans O4).trans O9
    cases b9
    · go_wp2
      go_ret
      exact ⟨⟨_, rfl, by first | omega | exact in_wrap _ | exact in_wrapI _ | exact in_quo _ hv3⟩, k9, sd9, by omega, C9, hO⟩
    · go_wp2
      go_ret
      exact ⟨⟨_, rfl, by first | omega | exact in_wrap _ | exact in_wrapI _ | exact in_quo _ hv3⟩, k9, sd9, by omega, C9, hO⟩
  by_cases h2 : y2 = 2
  · have e0 : (y2 == 0) = false := by simp; omega
    have e1 : (y2 == 1) = false := by simp; omega
    have e2 : (y2 == 2) = true := by simp; omega
    clear h2
    go_wp2_with fail
    refine (pick_any 64 p co cap bs k2 sd2 _ hl (by omega) C2).mono ?_
    rintro e w3 ⟨⟨y3, rfl, p3, q3⟩, ⟨k3, sd3, hk3, C3, O3⟩⟩
    go_wp2_with fail
    refine (one_any 3 p co cap bs k3 sd3 _ hl (by omega) C3).mono ?_
    rintro e w9 ⟨⟨b9, rfl⟩, ⟨k9, sd9, hk9, C9, O9⟩⟩
    have hO := (((O1).trans O2).trans O3).trans O9
    cases b9
    · go_wp2
      go_ret
      exact ⟨⟨_, rfl, by first | omega | exact in_wrap _ | exact in_wrapI _ | exact in_quo _ hv3⟩, k9, sd9, by omega, C9, hO⟩
    · go_wp2
      go_ret
      exact ⟨⟨_, rfl, by first | omega | exact in_wrap _ | exact in_wrapI _ | exact in_quo _ hv3⟩, k9, sd9, by omega, C9, hO⟩
  by_cases h3 : y2 = 3
  · have e0 : (y2 == 0) = false := by simp; omega
    have e1 : (y2 == 1) = false := by simp; omega
    have e2 : (y2 == 2) = false := by simp; omega
    have e3 : (y2 == 3) = true := by simp; omega
    clear h3
    go_wp2_with fail
    refine (pick_any 64 p co cap bs k2 sd2 _ hl (by omega) C2).mono ?_
    rintro e w3 ⟨⟨y3, rfl, p3, q3⟩, ⟨k3, sd3, hk3, C3, O3⟩⟩
    go_wp2_with fail
    refine (one_any 3 p co cap bs k3 sd3 _ hl (by omega) C3).mono ?_
    rintro e w9 ⟨⟨b9, rfl⟩, ⟨k9, sd9, hk9, C9, O9⟩⟩
    have hO := (((O1).trans O2).trans O3).trans O9
    cases b9
    · go_wp2
      go_ret
      exact ⟨⟨_, rfl, by first | omega | exact in_wrap _ | exact in_wrapI _ | exact in_quo _ hv3⟩, k9, sd9, by omega, C9, hO⟩
    · go_wp2
      go_ret
      exact ⟨⟨_, rfl, by first | omega | exact in_wrap _ | exact in_wrapI _ | exact in_quo _ hv3⟩, k9, sd9, by omega, C9, hO⟩
  have e0 : (y2 == 0) = false := by simp; omega
  have e1 : (y2 == 1) = false := by simp; omega
  have e2 : (y2 == 2) = false := by simp; omega
  have e3 : (y2 == 3) = false := by simp; omega
  go_wp2_with fail
  refine (one_any 3 p co cap bs k2 sd2 _ hl (by omega) C2).mono ?_
  rintro e w9 ⟨⟨b9, rfl⟩, ⟨k9, sd9, hk9, C9, O9⟩⟩
  have hO := ((O1).trans O2).trans O9
  cases b9
  · go_wp2
    go_ret
    exact ⟨⟨_, rfl, by first | omega | exact in_wrap _ | exact in_wrapI _ | exact in_quo _ hv3⟩, k9, sd9, by omega, C9, hO⟩
  · go_wp2
    go_ret
    exact ⟨⟨_, rfl, by first | omega | exact in_wrap _ | exact in_wrapI _ | exact in_quo _ hv3⟩, k9, sd9, by omega, C9, hO⟩
end Go.Proofs.Ytimkadnnhfllnaa
