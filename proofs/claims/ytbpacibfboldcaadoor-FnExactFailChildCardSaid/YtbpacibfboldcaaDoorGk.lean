
/- Whether a keeper is good: both sides. No conditions but those written. -/
import Derived.Test.YtbpacibfboldcaaDoorTk
import Derived.Test.YtbpacibfboldcaaDoorKp
namespace Go.Proofs.YtbpacibfboldcaaDoor
open Go.RowKit

/-- One of them is true. -/
def anyB (l : List Bool) : Bool := l.any id
theorem anyB_yes {l : List Bool} {k : Nat} (hk : k < l.length) (h : el l k = true) : anyB l = true := by
  rw [anyB, List.any_eq_true]; exact ⟨true, by rw [← h]; exact el_mem hk, rfl⟩
theorem anyB_no {l : List Bool} (h : ∀ k, k < l.length → el l k = false) : anyB l = false := by
  rw [anyB, List.any_eq_false]; intro x hx
  obtain ⟨j, hj, rfl⟩ := mem_el hx
  simp [h j hj]
set_option maxHeartbeats 1000000 in
theorem l10Any_is (ao : Option Addr) (cap : Nat) (l : List Bool) (w : World) (b : Bool) (hl : l.length ≤ 1048576) (hz : kB.In w.heap.size w ao l) (hb : anyB l = b) :
    Calls Tryd.prog 51 #[.slice ao l.length cap] w fun e w' => e = .returned (.bool b) ∧ w' = w := by
  have HB := hid hb
  clear hb
  go_enter Tryd.func51, Tryd.ntmps51
  go_wp2
  go_loop [7] (fun i => ∃ k : Nat, k ≤ l.length ∧ i = .int .i64 k ∧ Hid (∀ j, j < k → el l j = false)) (fun i => l.length - (intOf i).toNat)
  case atStart => exact ⟨0, Nat.zero_le _, rfl, fun j hj => by omega⟩
  case round =>
    obtain ⟨k, hk, rfl, hno⟩ := hrel
    by_cases hlt : k < l.length
    · obtain ⟨b, off, rfl, hb, hc⟩ := bools_at hz hlt
      have hck := hc k hlt
      cases hx : el l k
      · rw [hx] at hck
        have HX := hid hx
        clear hc hz hx
        go_wp2
        go_round
        case rel => exact ⟨k + 1, by omega, by go_num, fun j hj => by
          rcases Nat.lt_succ_iff_lt_or_eq.1 hj with h | rfl
          · exact hno.out j h
          · exact HX.out⟩
        case measure => simp [intOf]; omega
      · rw [hx] at hck
        have HV := hid (anyB_yes hlt hx)
        clear hc hz hx
        go_wp2
        go_ret
        exact ⟨ret_bool (by rw [← HB.out, HV.out]), rfl⟩
    · obtain rfl : k = l.length := by omega
      have HV := hid (anyB_no hno.out)
      go_wp2
      go_ret
      exact ⟨ret_bool (by rw [← HB.out, HV.out]), rfl⟩
set_option maxHeartbeats 1000000 in
theorem indexTrue_any (ao : Option Addr) (cap : Nat) (l : List Bool) (w : World) (hl : l.length ≤ 1048576) (hz : kB.In w.heap.size w ao l) :
    Calls Tryd.prog 66 #[.slice ao l.length cap, .bool true] w fun e w' => (∃ z : Int, e = .returned (.int .i64 z) ∧ decide (0 ≤ z) = anyB l) ∧ w' = w := by
  go_enter Tryd.func66, Tryd.ntmps66
  go_wp2
  go_loop [8] (fun i => ∃ k : Nat, k ≤ l.length ∧ i = .int .i64 k ∧ Hid (∀ j, j < k → el l j = false)) (fun i => l.length - (intOf i).toNat)
  case atStart => exact ⟨0, Nat.zero_le _, rfl, fun j hj => by omega⟩
  case round =>
    obtain ⟨k, hk, rfl, hno⟩ := hrel
    by_cases hlt : k < l.length
    · obtain ⟨b, off, rfl, hb, hc⟩ := bools_at hz hlt
      have hck := hc k hlt
      cases hx : el l k
      · rw [hx] at hck
        have HX := hid hx
        clear hc hz hx
        go_wp2
        go_round
        case rel => exact ⟨k + 1, by omega, by go_num, fun j hj => by
          rcases Nat.lt_succ_iff_lt_or_eq.1 hj with h | rfl
          · exact hno.out j h
          · exact HX.out⟩
        case measure => simp [intOf]; omega
      · rw [hx] at hck
        have HV := hid (anyB_yes hlt hx)
        clear hc hz hx
        go_wp2
        go_ret
        exact ⟨⟨_, rfl, by rw [HV.out]; simp⟩, rfl⟩
    · obtain rfl : k = l.length := by omega
      have HV := hid (anyB_no hno.out)
      go_wp2
      go_ret
      exact ⟨⟨_, rfl, by rw [HV.out]; simp⟩, rfl⟩
set_option maxHeartbeats 1000000 in
theorem hasTrue_is (ao : Option Addr) (cap : Nat) (l : List Bool) (w : World) (b : Bool) (hl : l.length ≤ 1048576) (hz : kB.In w.heap.size w ao l) (hb : anyB l = b) :
    Calls Tryd.prog 59 #[.slice ao l.length cap, .bool true] w fun e w' => e = .returned (.bool b) ∧ w' = w := by
  go_enter Tryd.func59, Tryd.ntmps59
  go_wp2_with fail
  refine (indexTrue_any ao cap l _ hl hz).mono ?_
  rintro e w1 ⟨⟨z, rfl, hd⟩, hw⟩
  subst hw
  rw [hb] at hd
  have HD := hid hd
  clear hd
  go_wp2
  go_ret
  exact ⟨ret_bool (by first | exact HD.out | simpa using HD.out), rfl⟩
/-- A keeper is good. -/
def keeperB (kd mr wi : Int) (r : List Bool) (f : List Int) (ov : Bool) : Bool :=
  (decide (1 ≤ kd) && decide (kd ≤ 2)) && (maxRB mr && (withinB wi && ((decide (1 ≤ (r.length : Int)) && decide ((r.length : Int) ≤ 10)) && (decide ((f.length : Int) ≤ mr) && (ticksB f && (!ov || (!anyB r && decide (f.length = 0))))))))
set_option maxRecDepth 10000 in
set_option maxHeartbeats 8000000 in
theorem implGoodK_is (kd : Int) (mr : Int) (wi : Int) (up : Int) (ch : Int) (ov : Bool) (ro : Option Addr) (rc : Nat) (r : List (Bool)) (fo : Option Addr) (fc : Nat) (f : List (Int)) (w : World) (x : Bool) (hlr : r.length ≤ 1048576) (hlf : f.length ≤ 1048576) (hz : InKeeper w.heap.size w ro r fo f) (hx : keeperB kd mr wi r f ov = x) :
    Calls Tryd.prog 31 #[.agg #[.int .i64 kd, .int .i64 mr, .int .i64 wi, .int .i64 up, .int .i64 ch, .slice ro r.length rc, .slice fo f.length fc, .bool ov]] w fun e w' => e = .returned (.bool x) ∧ Below w.heap.size w w' := by
  have HX := hid hx
  have hB0 := below1 w (.cells #[.int .i64 kd, .int .i64 mr, .int .i64 wi, .int .i64 up, .int .i64 ch, .slice ro r.length rc, .slice fo f.length fc, .bool ov] 27)
  have A0 := hid (Bx.new (w := w) (p := w.heap.size) [.int .i64 kd, .int .i64 mr, .int .i64 wi, .int .i64 up, .int .i64 ch, .slice ro r.length rc, .slice fo f.length fc, .bool ov] 27 rfl)
  have Z0 := hid (hz.later hB0)
  clear hx hz
  by_cases hk : kd = 1
  · have hk1 : (kd != 1) = false := by simp [hk]
    have HK : Hid ((decide (1 ≤ kd) && decide (kd ≤ 2)) = true) := by simp [Hid, hk]
    clear hk
    cases hHM : (maxRB mr)
    · have HM := hid hHM
      have HV : Hid (x = false) := by rw [Hid, ← HX.out, keeperB, hHM]; simp
      clear hHM
      go_enter Tryd.func31, Tryd.ntmps31
      go_wp2_with fail
      refine (goodMaxR_is mr _ false HM.out).mono ?_
      rintro e w1 ⟨rfl, hw1⟩
      subst hw1
      go_wp2
      go_ret
      exact ⟨ret_bool HV.out.symm, hB0⟩
    have HM := hid hHM
    clear hHM
    cases hHW : (withinB wi)
    · have HW := hid hHW
      have HV : Hid (x = false) := by rw [Hid, ← HX.out, keeperB, hHW]; simp
      clear hHW
      go_enter Tryd.func31, Tryd.ntmps31
      go_wp2_with fail
      refine (goodMaxR_is mr _ true HM.out).mono ?_
      rintro e w1 ⟨rfl, hw1⟩
      subst hw1
      go_wp2_with fail
      refine (goodWithin_is wi _ false HW.out).mono ?_
      rintro e w1 ⟨rfl, hw1⟩
      subst hw1
      go_wp2
      go_ret
      exact ⟨ret_bool HV.out.symm, hB0⟩
    have HW := hid hHW
    clear hHW
    by_cases g1 : (r.length : Int) < 1
    · have HV : Hid (x = false) := by rw [Hid, ← HX.out, keeperB, decide_eq_false (show ¬ 1 ≤ (r.length : Int) by omega)]; simp
      go_enter Tryd.func31, Tryd.ntmps31
      go_wp2_with fail
      refine (goodMaxR_is mr _ true HM.out).mono ?_
      rintro e w1 ⟨rfl, hw1⟩
      subst hw1
      go_wp2_with fail
      refine (goodWithin_is wi _ true HW.out).mono ?_
      rintro e w1 ⟨rfl, hw1⟩
      subst hw1
      go_wp2
      go_ret
      exact ⟨ret_bool HV.out.symm, hB0⟩
    by_cases g2 : (r.length : Int) > 10
    · have HV : Hid (x = false) := by rw [Hid, ← HX.out, keeperB, decide_eq_false (show ¬ (r.length : Int) ≤ 10 by omega)]; simp
      go_enter Tryd.func31, Tryd.ntmps31
      go_wp2_with fail
      refine (goodMaxR_is mr _ true HM.out).mono ?_
      rintro e w1 ⟨rfl, hw1⟩
      subst hw1
      go_wp2_with fail
      refine (goodWithin_is wi _ true HW.out).mono ?_
      rintro e w1 ⟨rfl, hw1⟩
      subst hw1
      go_wp2
      go_ret
      exact ⟨ret_bool HV.out.symm, hB0⟩
    by_cases g3 : (f.length : Int) > mr
    · have HV : Hid (x = false) := by rw [Hid, ← HX.out, keeperB, decide_eq_false (show ¬ (f.length : Int) ≤ mr by omega)]; simp
      go_enter Tryd.func31, Tryd.ntmps31
      go_wp2_with fail
      refine (goodMaxR_is mr _ true HM.out).mono ?_
      rintro e w1 ⟨rfl, hw1⟩
      subst hw1
      go_wp2_with fail
      refine (goodWithin_is wi _ true HW.out).mono ?_
      rintro e w1 ⟨rfl, hw1⟩
      subst hw1
      go_wp2
      go_ret
      exact ⟨ret_bool HV.out.symm, hB0⟩
    cases hT : ticksB f
    · have HT := hid hT
      have HV : Hid (x = false) := by rw [Hid, ← HX.out, keeperB, hT]; simp
      clear hT
      go_enter Tryd.func31, Tryd.ntmps31
      go_wp2_with fail
      refine (goodMaxR_is mr _ true HM.out).mono ?_
      rintro e w1 ⟨rfl, hw1⟩
      subst hw1
      go_wp2_with fail
      refine (goodWithin_is wi _ true HW.out).mono ?_
      rintro e w1 ⟨rfl, hw1⟩
      subst hw1
      go_wp2_with fail
      refine (implTicks_is fo fc f _ false hlf Z0.out.2 HT.out).mono ?_
      rintro e w2 ⟨rfl, hb2⟩
      have hB2 := hB0.trans (hb2.mono hB0.size)
      clear hb2
      go_wp2
      go_ret
      exact ⟨ret_bool HV.out.symm, hB2⟩
    have HT := hid hT
    clear hT
    have HG : Hid (x = (!ov || (!anyB r && decide (f.length = 0)))) := by
      rw [Hid, ← HX.out, keeperB, HK.out, HM.out, HW.out, HT.out, decide_eq_true (show (f.length : Int) ≤ mr by omega), decide_eq_true (show 1 ≤ (r.length : Int) by omega), decide_eq_true (show (r.length : Int) ≤ 10 by omega)]; simp
    cases ov
    · have HV : Hid (x = true) := by rw [Hid, HG.out]; simp
      go_enter Tryd.func31, Tryd.ntmps31
      go_wp2_with fail
      refine (goodMaxR_is mr _ true HM.out).mono ?_
      rintro e w1 ⟨rfl, hw1⟩
      subst hw1
      go_wp2_with fail
      refine (goodWithin_is wi _ true HW.out).mono ?_
      rintro e w1 ⟨rfl, hw1⟩
      subst hw1
      go_wp2_with fail
      refine (implTicks_is fo fc f _ true hlf Z0.out.2 HT.out).mono ?_
      rintro e w2 ⟨rfl, hb2⟩
      have hB2 := hB0.trans (hb2.mono hB0.size)
      have A2 := hid (A0.out.later hb2)
      have Z2 := hid (Z0.out.later hb2)
      clear hb2
      have a5 := A2.out.c 5 rfl
      have a6 := A2.out.c 6 rfl
      have a7 := A2.out.c 7 rfl
      go_wp2
      go_ret
      exact ⟨ret_bool HV.out.symm, hB2⟩
    by_cases g4 : f.length = 0
    · have g5 : ((f.length : Int) == 0) = true := by simp [g4]
      have HV : Hid (x = !anyB r) := by rw [Hid, HG.out]; simp [g4]
      obtain ⟨u, hu⟩ : ∃ u, anyB r = u := ⟨_, rfl⟩
      have HU := hid hu
      rw [hu] at HV
      clear hu g4
      go_enter Tryd.func31, Tryd.ntmps31
      go_wp2_with fail
      refine (goodMaxR_is mr _ true HM.out).mono ?_
      rintro e w1 ⟨rfl, hw1⟩
      subst hw1
      go_wp2_with fail
      refine (goodWithin_is wi _ true HW.out).mono ?_
      rintro e w1 ⟨rfl, hw1⟩
      subst hw1
      go_wp2_with fail
      refine (implTicks_is fo fc f _ true hlf Z0.out.2 HT.out).mono ?_
      rintro e w2 ⟨rfl, hb2⟩
      have hB2 := hB0.trans (hb2.mono hB0.size)
      have A2 := hid (A0.out.later hb2)
      have Z2 := hid (Z0.out.later hb2)
      clear hb2
      have a5 := A2.out.c 5 rfl
      have a6 := A2.out.c 6 rfl
      have a7 := A2.out.c 7 rfl
      go_wp2_with fail
      refine (hasTrue_is ro rc r _ u hlr Z2.out.1 HU.out).mono ?_
      rintro e w3 ⟨rfl, hw3⟩
      subst hw3
      go_wp2
      go_ret
      exact ⟨ret_bool HV.out.symm, hB2⟩
    have g5 : ((f.length : Int) == 0) = false := by simpa using g4
    have HV : Hid (x = false) := by rw [Hid, HG.out, decide_eq_false g4]; simp
    clear g4
    go_enter Tryd.func31, Tryd.ntmps31
    go_wp2_with fail
    refine (goodMaxR_is mr _ true HM.out).mono ?_
    rintro e w1 ⟨rfl, hw1⟩
    subst hw1
    go_wp2_with fail
    refine (goodWithin_is wi _ true HW.out).mono ?_
    rintro e w1 ⟨rfl, hw1⟩
    subst hw1
    go_wp2_with fail
    refine (implTicks_is fo fc f _ true hlf Z0.out.2 HT.out).mono ?_
    rintro e w2 ⟨rfl, hb2⟩
    have hB2 := hB0.trans (hb2.mono hB0.size)
    have A2 := hid (A0.out.later hb2)
    have Z2 := hid (Z0.out.later hb2)
    clear hb2
    have a5 := A2.out.c 5 rfl
    have a6 := A2.out.c 6 rfl
    have a7 := A2.out.c 7 rfl
    go_wp2
    go_ret
    exact ⟨ret_bool HV.out.symm, hB2⟩
  have hk1 : (kd != 1) = true := by simpa using hk
  by_cases hk3 : kd = 2
  · have hk2 : (kd != 2) = false := by simp [hk3]
    have HK : Hid ((decide (1 ≤ kd) && decide (kd ≤ 2)) = true) := by simp [Hid, hk3]
    clear hk hk3
    cases hHM : (maxRB mr)
    · have HM := hid hHM
      have HV : Hid (x = false) := by rw [Hid, ← HX.out, keeperB, hHM]; simp
      clear hHM
      go_enter Tryd.func31, Tryd.ntmps31
      go_wp2_with fail
      refine (goodMaxR_is mr _ false HM.out).mono ?_
      rintro e w1 ⟨rfl, hw1⟩
      subst hw1
      go_wp2
      go_ret
      exact ⟨ret_bool HV.out.symm, hB0⟩
    have HM := hid hHM
    clear hHM
    cases hHW : (withinB wi)
    · have HW := hid hHW
      have HV : Hid (x = false) := by rw [Hid, ← HX.out, keeperB, hHW]; simp
      clear hHW
      go_enter Tryd.func31, Tryd.ntmps31
      go_wp2_with fail
      refine (goodMaxR_is mr _ true HM.out).mono ?_
      rintro e w1 ⟨rfl, hw1⟩
      subst hw1
      go_wp2_with fail
      refine (goodWithin_is wi _ false HW.out).mono ?_
      rintro e w1 ⟨rfl, hw1⟩
      subst hw1
      go_wp2
      go_ret
      exact ⟨ret_bool HV.out.symm, hB0⟩
    have HW := hid hHW
    clear hHW
    by_cases g1 : (r.length : Int) < 1
    · have HV : Hid (x = false) := by rw [Hid, ← HX.out, keeperB, decide_eq_false (show ¬ 1 ≤ (r.length : Int) by omega)]; simp
      go_enter Tryd.func31, Tryd.ntmps31
      go_wp2_with fail
      refine (goodMaxR_is mr _ true HM.out).mono ?_
      rintro e w1 ⟨rfl, hw1⟩
      subst hw1
      go_wp2_with fail
      refine (goodWithin_is wi _ true HW.out).mono ?_
      rintro e w1 ⟨rfl, hw1⟩
      subst hw1
      go_wp2
      go_ret
      exact ⟨ret_bool HV.out.symm, hB0⟩
    by_cases g2 : (r.length : Int) > 10
    · have HV : Hid (x = false) := by rw [Hid, ← HX.out, keeperB, decide_eq_false (show ¬ (r.length : Int) ≤ 10 by omega)]; simp
      go_enter Tryd.func31, Tryd.ntmps31
      go_wp2_with fail
      refine (goodMaxR_is mr _ true HM.out).mono ?_
      rintro e w1 ⟨rfl, hw1⟩
      subst hw1
      go_wp2_with fail
      refine (goodWithin_is wi _ true HW.out).mono ?_
      rintro e w1 ⟨rfl, hw1⟩
      subst hw1
      go_wp2
      go_ret
      exact ⟨ret_bool HV.out.symm, hB0⟩
    by_cases g3 : (f.length : Int) > mr
    · have HV : Hid (x = false) := by rw [Hid, ← HX.out, keeperB, decide_eq_false (show ¬ (f.length : Int) ≤ mr by omega)]; simp
      go_enter Tryd.func31, Tryd.ntmps31
      go_wp2_with fail
      refine (goodMaxR_is mr _ true HM.out).mono ?_
      rintro e w1 ⟨rfl, hw1⟩
      subst hw1
      go_wp2_with fail
      refine (goodWithin_is wi _ true HW.out).mono ?_
      rintro e w1 ⟨rfl, hw1⟩
      subst hw1
      go_wp2
      go_ret
      exact ⟨ret_bool HV.out.symm, hB0⟩
    cases hT : ticksB f
    · have HT := hid hT
      have HV : Hid (x = false) := by rw [Hid, ← HX.out, keeperB, hT]; simp
      clear hT
      go_enter Tryd.func31, Tryd.ntmps31
      go_wp2_with fail
      refine (goodMaxR_is mr _ true HM.out).mono ?_
      rintro e w1 ⟨rfl, hw1⟩
      subst hw1
      go_wp2_with fail
      refine (goodWithin_is wi _ true HW.out).mono ?_
      rintro e w1 ⟨rfl, hw1⟩
      subst hw1
      go_wp2_with fail
      refine (implTicks_is fo fc f _ false hlf Z0.out.2 HT.out).mono ?_
      rintro e w2 ⟨rfl, hb2⟩
      have hB2 := hB0.trans (hb2.mono hB0.size)
      clear hb2
      go_wp2
      go_ret
      exact ⟨ret_bool HV.out.symm, hB2⟩
    have HT := hid hT
    clear hT
    have HG : Hid (x = (!ov || (!anyB r && decide (f.length = 0)))) := by
      rw [Hid, ← HX.out, keeperB, HK.out, HM.out, HW.out, HT.out, decide_eq_true (show (f.length : Int) ≤ mr by omega), decide_eq_true (show 1 ≤ (r.length : Int) by omega), decide_eq_true (show (r.length : Int) ≤ 10 by omega)]; simp
    cases ov
    · have HV : Hid (x = true) := by rw [Hid, HG.out]; simp
      go_enter Tryd.func31, Tryd.ntmps31
      go_wp2_with fail
      refine (goodMaxR_is mr _ true HM.out).mono ?_
      rintro e w1 ⟨rfl, hw1⟩
      subst hw1
      go_wp2_with fail
      refine (goodWithin_is wi _ true HW.out).mono ?_
      rintro e w1 ⟨rfl, hw1⟩
      subst hw1
      go_wp2_with fail
      refine (implTicks_is fo fc f _ true hlf Z0.out.2 HT.out).mono ?_
      rintro e w2 ⟨rfl, hb2⟩
      have hB2 := hB0.trans (hb2.mono hB0.size)
      have A2 := hid (A0.out.later hb2)
      have Z2 := hid (Z0.out.later hb2)
      clear hb2
      have a5 := A2.out.c 5 rfl
      have a6 := A2.out.c 6 rfl
      have a7 := A2.out.c 7 rfl
      go_wp2
      go_ret
      exact ⟨ret_bool HV.out.symm, hB2⟩
    by_cases g4 : f.length = 0
    · have g5 : ((f.length : Int) == 0) = true := by simp [g4]
      have HV : Hid (x = !anyB r) := by rw [Hid, HG.out]; simp [g4]
      obtain ⟨u, hu⟩ : ∃ u, anyB r = u := ⟨_, rfl⟩
      have HU := hid hu
      rw [hu] at HV
      clear hu g4
      go_enter Tryd.func31, Tryd.ntmps31
      go_wp2_with fail
      refine (goodMaxR_is mr _ true HM.out).mono ?_
      rintro e w1 ⟨rfl, hw1⟩
      subst hw1
      go_wp2_with fail
      refine (goodWithin_is wi _ true HW.out).mono ?_
      rintro e w1 ⟨rfl, hw1⟩
      subst hw1
      go_wp2_with fail
      refine (implTicks_is fo fc f _ true hlf Z0.out.2 HT.out).mono ?_
      rintro e w2 ⟨rfl, hb2⟩
      have hB2 := hB0.trans (hb2.mono hB0.size)
      have A2 := hid (A0.out.later hb2)
      have Z2 := hid (Z0.out.later hb2)
      clear hb2
      have a5 := A2.out.c 5 rfl
      have a6 := A2.out.c 6 rfl
      have a7 := A2.out.c 7 rfl
      go_wp2_with fail
      refine (hasTrue_is ro rc r _ u hlr Z2.out.1 HU.out).mono ?_
      rintro e w3 ⟨rfl, hw3⟩
      subst hw3
      go_wp2
      go_ret
      exact ⟨ret_bool HV.out.symm, hB2⟩
    have g5 : ((f.length : Int) == 0) = false := by simpa using g4
    have HV : Hid (x = false) := by rw [Hid, HG.out, decide_eq_false g4]; simp
    clear g4
    go_enter Tryd.func31, Tryd.ntmps31
    go_wp2_with fail
    refine (goodMaxR_is mr _ true HM.out).mono ?_
    rintro e w1 ⟨rfl, hw1⟩
    subst hw1
    go_wp2_with fail
    refine (goodWithin_is wi _ true HW.out).mono ?_
    rintro e w1 ⟨rfl, hw1⟩
    subst hw1
    go_wp2_with fail
    refine (implTicks_is fo fc f _ true hlf Z0.out.2 HT.out).mono ?_
    rintro e w2 ⟨rfl, hb2⟩
    have hB2 := hB0.trans (hb2.mono hB0.size)
    have A2 := hid (A0.out.later hb2)
    have Z2 := hid (Z0.out.later hb2)
    clear hb2
    have a5 := A2.out.c 5 rfl
    have a6 := A2.out.c 6 rfl
    have a7 := A2.out.c 7 rfl
    go_wp2
    go_ret
    exact ⟨ret_bool HV.out.symm, hB2⟩
  have hk2 : (kd != 2) = true := by simpa using hk3
  have HV : Hid (x = false) := by
    have : (decide (1 ≤ kd) && decide (kd ≤ 2)) = false := by simp; omega
    rw [Hid, ← HX.out, keeperB, this]; rfl
  clear hk hk3
  go_enter Tryd.func31, Tryd.ntmps31
  go_wp2
  go_ret
  exact ⟨ret_bool HV.out.symm, hB0⟩
set_option maxRecDepth 10000 in
set_option maxHeartbeats 8000000 in
theorem specGoodK_is (kd : Int) (mr : Int) (wi : Int) (up : Int) (ch : Int) (ov : Bool) (ro : Option Addr) (rc : Nat) (r : List (Bool)) (fo : Option Addr) (fc : Nat) (f : List (Int)) (w : World) (x : Bool) (hlr : r.length ≤ 1048576) (hlf : f.length ≤ 1048576) (hz : InKeeper w.heap.size w ro r fo f) (hx : keeperB kd mr wi r f ov = x) :
    Calls Tryd.prog 24 #[.agg #[.int .i64 kd, .int .i64 mr, .int .i64 wi, .int .i64 up, .int .i64 ch, .slice ro r.length rc, .slice fo f.length fc, .bool ov]] w fun e w' => e = .returned (.bool x) ∧ Below w.heap.size w w' := by
  have HX := hid hx
  have hB0 := below1 w (.cells #[.int .i64 kd, .int .i64 mr, .int .i64 wi, .int .i64 up, .int .i64 ch, .slice ro r.length rc, .slice fo f.length fc, .bool ov] 27)
  have A0 := hid (Bx.new (w := w) (p := w.heap.size) [.int .i64 kd, .int .i64 mr, .int .i64 wi, .int .i64 up, .int .i64 ch, .slice ro r.length rc, .slice fo f.length fc, .bool ov] 27 rfl)
  have Z0 := hid (hz.later hB0)
  clear hx hz
  cases hHK : (decide (1 ≤ kd) && decide (kd ≤ 2))
  · have HK := hid hHK
    have HV : Hid (x = false) := by rw [Hid, ← HX.out, keeperB, hHK]; simp
    clear hHK
    go_enter Tryd.func24, Tryd.ntmps24
    go_wp2_with fail
    refine (l1In_is kd 1 2 _ false HK.out).mono ?_
    rintro e w1 ⟨rfl, hw1⟩
    subst hw1
    go_wp2
    go_ret
    exact ⟨ret_bool HV.out.symm, hB0⟩
  have HK := hid hHK
  clear hHK
  cases hHM : (maxRB mr)
  · have HM := hid hHM
    have HV : Hid (x = false) := by rw [Hid, ← HX.out, keeperB, hHM]; simp
    clear hHM
    go_enter Tryd.func24, Tryd.ntmps24
    go_wp2_with fail
    refine (l1In_is kd 1 2 _ true HK.out).mono ?_
    rintro e w1 ⟨rfl, hw1⟩
    subst hw1
    go_wp2_with fail
    refine (l1In_is mr 0 10 _ false HM.out).mono ?_
    rintro e w1 ⟨rfl, hw1⟩
    subst hw1
    go_wp2
    go_ret
    exact ⟨ret_bool HV.out.symm, hB0⟩
  have HM := hid hHM
  clear hHM
  cases hHW : (withinB wi)
  · have HW := hid hHW
    have HV : Hid (x = false) := by rw [Hid, ← HX.out, keeperB, hHW]; simp
    clear hHW
    go_enter Tryd.func24, Tryd.ntmps24
    go_wp2_with fail
    refine (l1In_is kd 1 2 _ true HK.out).mono ?_
    rintro e w1 ⟨rfl, hw1⟩
    subst hw1
    go_wp2_with fail
    refine (l1In_is mr 0 10 _ true HM.out).mono ?_
    rintro e w1 ⟨rfl, hw1⟩
    subst hw1
    go_wp2_with fail
    refine (l1In_is wi 1 1000 _ false HW.out).mono ?_
    rintro e w1 ⟨rfl, hw1⟩
    subst hw1
    go_wp2
    go_ret
    exact ⟨ret_bool HV.out.symm, hB0⟩
  have HW := hid hHW
  clear hHW
  cases hHL : (decide (1 ≤ (r.length : Int)) && decide ((r.length : Int) ≤ 10))
  · have HL := hid hHL
    have HV : Hid (x = false) := by rw [Hid, ← HX.out, keeperB, hHL]; simp
    clear hHL
    go_enter Tryd.func24, Tryd.ntmps24
    go_wp2_with fail
    refine (l1In_is kd 1 2 _ true HK.out).mono ?_
    rintro e w1 ⟨rfl, hw1⟩
    subst hw1
    go_wp2_with fail
    refine (l1In_is mr 0 10 _ true HM.out).mono ?_
    rintro e w1 ⟨rfl, hw1⟩
    subst hw1
    go_wp2_with fail
    refine (l1In_is wi 1 1000 _ true HW.out).mono ?_
    rintro e w1 ⟨rfl, hw1⟩
    subst hw1
    go_wp2_with fail
    refine (l1In_is (r.length : Int) 1 10 _ false HL.out).mono ?_
    rintro e w1 ⟨rfl, hw1⟩
    subst hw1
    go_wp2
    go_ret
    exact ⟨ret_bool HV.out.symm, hB0⟩
  have HL := hid hHL
  clear hHL
  by_cases g3 : (f.length : Int) > mr
  · have HV : Hid (x = false) := by rw [Hid, ← HX.out, keeperB, decide_eq_false (show ¬ (f.length : Int) ≤ mr by omega)]; simp
    go_enter Tryd.func24, Tryd.ntmps24
    go_wp2_with fail
    refine (l1In_is kd 1 2 _ true HK.out).mono ?_
    rintro e w1 ⟨rfl, hw1⟩
    subst hw1
    go_wp2_with fail
    refine (l1In_is mr 0 10 _ true HM.out).mono ?_
    rintro e w1 ⟨rfl, hw1⟩
    subst hw1
    go_wp2_with fail
    refine (l1In_is wi 1 1000 _ true HW.out).mono ?_
    rintro e w1 ⟨rfl, hw1⟩
    subst hw1
    go_wp2_with fail
    refine (l1In_is (r.length : Int) 1 10 _ true HL.out).mono ?_
    rintro e w1 ⟨rfl, hw1⟩
    subst hw1
    go_wp2
    go_ret
    exact ⟨ret_bool HV.out.symm, hB0⟩
  cases hT : ticksB f
  · have HT := hid hT
    have HV : Hid (x = false) := by rw [Hid, ← HX.out, keeperB, hT]; simp
    clear hT
    go_enter Tryd.func24, Tryd.ntmps24
    go_wp2_with fail
    refine (l1In_is kd 1 2 _ true HK.out).mono ?_
    rintro e w1 ⟨rfl, hw1⟩
    subst hw1
    go_wp2_with fail
    refine (l1In_is mr 0 10 _ true HM.out).mono ?_
    rintro e w1 ⟨rfl, hw1⟩
    subst hw1
    go_wp2_with fail
    refine (l1In_is wi 1 1000 _ true HW.out).mono ?_
    rintro e w1 ⟨rfl, hw1⟩
    subst hw1
    go_wp2_with fail
    refine (l1In_is (r.length : Int) 1 10 _ true HL.out).mono ?_
    rintro e w1 ⟨rfl, hw1⟩
    subst hw1
    go_wp2_with fail
    refine (specTicks_is fo fc f _ false hlf Z0.out.2 HT.out).mono ?_
    rintro e w2 ⟨rfl, hb2⟩
    have hB2 := hB0.trans (hb2.mono hB0.size)
    clear hb2
    go_wp2
    go_ret
    exact ⟨ret_bool HV.out.symm, hB2⟩
  have HT := hid hT
  clear hT
  have HG : Hid (x = (!ov || (!anyB r && decide (f.length = 0)))) := by
    rw [Hid, ← HX.out, keeperB, HK.out, HM.out, HW.out, HL.out, HT.out, decide_eq_true (show (f.length : Int) ≤ mr by omega)]; simp
  cases ov
  · have HV : Hid (x = true) := by rw [Hid, HG.out]; simp
    go_enter Tryd.func24, Tryd.ntmps24
    go_wp2_with fail
    refine (l1In_is kd 1 2 _ true HK.out).mono ?_
    rintro e w1 ⟨rfl, hw1⟩
    subst hw1
    go_wp2_with fail
    refine (l1In_is mr 0 10 _ true HM.out).mono ?_
    rintro e w1 ⟨rfl, hw1⟩
    subst hw1
    go_wp2_with fail
    refine (l1In_is wi 1 1000 _ true HW.out).mono ?_
    rintro e w1 ⟨rfl, hw1⟩
    subst hw1
    go_wp2_with fail
    refine (l1In_is (r.length : Int) 1 10 _ true HL.out).mono ?_
    rintro e w1 ⟨rfl, hw1⟩
    subst hw1
    go_wp2_with fail
    refine (specTicks_is fo fc f _ true hlf Z0.out.2 HT.out).mono ?_
    rintro e w2 ⟨rfl, hb2⟩
    have hB2 := hB0.trans (hb2.mono hB0.size)
    have A2 := hid (A0.out.later hb2)
    have Z2 := hid (Z0.out.later hb2)
    clear hb2
    have a5 := A2.out.c 5 rfl
    have a6 := A2.out.c 6 rfl
    have a7 := A2.out.c 7 rfl
    go_wp2
    go_ret
    exact ⟨ret_bool HV.out.symm, hB2⟩
  cases hu : anyB r
  · have HU := hid hu
    have HV : Hid (x = ((f.length : Int) == 0)) := by rw [Hid, HG.out, hu]; simp; rw [Bool.eq_iff_iff]; simp
    clear hu
    go_enter Tryd.func24, Tryd.ntmps24
    go_wp2_with fail
    refine (l1In_is kd 1 2 _ true HK.out).mono ?_
    rintro e w1 ⟨rfl, hw1⟩
    subst hw1
    go_wp2_with fail
    refine (l1In_is mr 0 10 _ true HM.out).mono ?_
    rintro e w1 ⟨rfl, hw1⟩
    subst hw1
    go_wp2_with fail
    refine (l1In_is wi 1 1000 _ true HW.out).mono ?_
    rintro e w1 ⟨rfl, hw1⟩
    subst hw1
    go_wp2_with fail
    refine (l1In_is (r.length : Int) 1 10 _ true HL.out).mono ?_
    rintro e w1 ⟨rfl, hw1⟩
    subst hw1
    go_wp2_with fail
    refine (specTicks_is fo fc f _ true hlf Z0.out.2 HT.out).mono ?_
    rintro e w2 ⟨rfl, hb2⟩
    have hB2 := hB0.trans (hb2.mono hB0.size)
    have A2 := hid (A0.out.later hb2)
    have Z2 := hid (Z0.out.later hb2)
    clear hb2
    have a5 := A2.out.c 5 rfl
    have a6 := A2.out.c 6 rfl
    have a7 := A2.out.c 7 rfl
    go_wp2_with fail
    refine (l10Any_is ro rc r _ false hlr Z2.out.1 HU.out).mono ?_
    rintro e w3 ⟨rfl, hw3⟩
    subst hw3
    go_wp2
    go_ret
    exact ⟨ret_bool HV.out.symm, hB2⟩
  have HU := hid hu
  have HV : Hid (x = false) := by rw [Hid, HG.out, hu]; simp
  clear hu
  go_enter Tryd.func24, Tryd.ntmps24
  go_wp2_with fail
  refine (l1In_is kd 1 2 _ true HK.out).mono ?_
  rintro e w1 ⟨rfl, hw1⟩
  subst hw1
  go_wp2_with fail
  refine (l1In_is mr 0 10 _ true HM.out).mono ?_
  rintro e w1 ⟨rfl, hw1⟩
  subst hw1
  go_wp2_with fail
  refine (l1In_is wi 1 1000 _ true HW.out).mono ?_
  rintro e w1 ⟨rfl, hw1⟩
  subst hw1
  go_wp2_with fail
  refine (l1In_is (r.length : Int) 1 10 _ true HL.out).mono ?_
  rintro e w1 ⟨rfl, hw1⟩
  subst hw1
  go_wp2_with fail
  refine (specTicks_is fo fc f _ true hlf Z0.out.2 HT.out).mono ?_
  rintro e w2 ⟨rfl, hb2⟩
  have hB2 := hB0.trans (hb2.mono hB0.size)
  have A2 := hid (A0.out.later hb2)
  have Z2 := hid (Z0.out.later hb2)
  clear hb2
  have a5 := A2.out.c 5 rfl
  have a6 := A2.out.c 6 rfl
  have a7 := A2.out.c 7 rfl
  go_wp2_with fail
  refine (l10Any_is ro rc r _ true hlr Z2.out.1 HU.out).mono ?_
  rintro e w3 ⟨rfl, hw3⟩
  subst hw3
  go_wp2
  go_ret
  exact ⟨ret_bool HV.out.symm, hB2⟩
end Go.Proofs.YtbpacibfboldcaaDoor
