/- Whether scopes are good: the specification. No conditions but those written. -/
import Derived.Test.YtcdkdigafcfgmaaSc
namespace Go.Proofs.Ytcdkdigafcfgmaa
open Go.RowKit

theorem upB_odd {k : Nat} {up : Int} {b1 b2 : Bool} (h1 : ((k : Int) == 0) = b1) (h2 : (up == -1) = b2) (h : (b1 != b2) = true) : upB k up = false := by
  subst h1 h2
  unfold upB
  by_cases h0 : (k : Int) = 0
  · rw [if_pos h0]; simp [h0] at h; simpa using h
  · rw [if_neg h0]
    have e : ((k : Int) == 0) = false := by simpa using h0
    rw [e] at h
    simp at h
    subst h; simp
theorem upB_even {k : Nat} {up : Int} {b1 b2 : Bool} (h1 : ((k : Int) == 0) = b1) (h2 : (up == -1) = b2) (h : (b1 != b2) = false) : upB k up = (decide (-1 ≤ up) && decide (up ≤ (k : Int) - 1)) := by
  subst h1 h2
  unfold upB
  by_cases h0 : (k : Int) = 0
  · rw [if_pos h0]; simp [h0] at h; subst h; simp [h0]
  · rw [if_neg h0]
    have e : ((k : Int) == 0) = false := by simpa using h0
    rw [e] at h
    simp at h
    have e1 : decide (0 ≤ up) = decide (-1 ≤ up) := decide_eq_decide.2 (by omega)
    have e2 : decide (up < (k : Int)) = decide (up ≤ (k : Int) - 1) := decide_eq_decide.2 (by omega)
    rw [e1, e2]

set_option maxRecDepth 10000 in
set_option maxHeartbeats 8000000 in
theorem specGoodScopes_is (ao : Option Addr) (cap : Nat) (l : List Sc) (w : World) (x : Bool) (hl : l.length ≤ 1048576) (hz : kS.In w.heap.size w ao l) (hx : scopesB l = x) :
    Calls Try.prog 43 #[.slice ao l.length cap] w fun e w' => e = .returned (.bool x) ∧ Below w.heap.size w w' := by
  by_cases h20 : 20 < l.length
  · have HX : Hid (x = false) := by rw [Hid, ← hx, scopesB_long h20]
    clear hx
    go_enter Try.func43, Try.ntmps43
    go_wp2
    go_ret
    exact ⟨ret_bool HX.out.symm, Below.refl _ _⟩
  have h20' : decide ((20 : Int) < (l.length : Int)) = false := by simp; omega
  have HX : Hid (scopesB l = x) := hx
  clear hx
  go_enter Try.func43, Try.ntmps43
  go_wp2
  go_loopw [10] (fun i wr => ∃ k : Nat, k ≤ l.length ∧ i = .int .i64 k ∧ Hid (∀ j, j < k → scB l j = true) ∧ Below w.heap.size w wr) (fun i _ => l.length - (intOf i).toNat)
  case atStart => exact ⟨0, Nat.zero_le _, rfl, fun j hj => by omega, Below.refl _ _⟩
  case round =>
    obtain ⟨k, hk, rfl, hno, hB⟩ := hrel
    by_cases hlt : k < l.length
    · have HZ : Hid (kS.In w.heap.size w ao l) := hz
      obtain ⟨b, off, rfl, hb0, hc⟩ := kS_at hz hlt
      have d1 := (hB.cell (p := ⟨b, off + k * 3, none⟩) hb0).trans (hc k hlt).1
      have d2 := (hB.cell (p := ⟨b, off + k * 3 + 1, none⟩) hb0).trans (hc k hlt).2.1
      have d3 := (hB.cell (p := ⟨b, off + k * 3 + 2, none⟩) hb0).trans (hc k hlt).2.2
      obtain ⟨⟨y1, y2, y3⟩, ey⟩ : ∃ v, v = el l k := ⟨_, rfl⟩
      rw [← ey] at d1 d2 d3
      have HY : Hid (el l k = (y1, y2, y3)) := ey.symm
      have HC : Hid (∀ j, j < l.length → w.cell? ⟨b, off + j * 3 + 2, none⟩ = some (.int .i64 (el l j).2.2)) := fun j hj => (hc j hj).2.2
      clear ey hc hz
      dsimp only at d1 d2 d3
      have hB3 := Below.allocS hB (.cells #[.int .i64 y1, .int .i64 y2, .int .i64 y3] 104)
      have hbw : b < wr.heap.size := Nat.lt_of_lt_of_le hb0 hB.size
      obtain ⟨b1, hb1⟩ : ∃ b1, ((k : Int) == 0) = b1 := ⟨_, rfl⟩
      obtain ⟨b2, hb2⟩ : ∃ b2, (y1 == -1) = b2 := ⟨_, rfl⟩
      cases hodd : (b1 != b2)
      case true =>
        have HF : Hid (x = false) := by rw [Hid, ← HX.out]; exact scopesB_bad k hlt (scB_up HY.out (upB_odd hb1 hb2 hodd))
        cases b1 <;> cases b2 <;> simp at hodd
        all_goals
          go_wp2
          go_ret
          exact ⟨ret_bool HF.out.symm, hB3⟩
      case false =>
        have HUE : Hid (upB k y1 = (decide (-1 ≤ y1) && decide (y1 ≤ (k : Int) - 1))) := upB_even hb1 hb2 hodd
        cases hr : (decide (-1 ≤ y1) && decide (y1 ≤ (k : Int) - 1))
        · have HR : Hid ((decide (-1 ≤ y1) && decide (y1 ≤ (k : Int) - 1)) = false) := hr
          have HF : Hid (x = false) := by rw [Hid, ← HX.out]; exact scopesB_bad k hlt (scB_up HY.out (by rw [HUE.out, hr]))
          clear hr
          cases b1 <;> cases b2 <;> simp at hodd
          all_goals
            go_wp2_with fail
            refine (l1In_is y1 (-1) ((k : Int) - 1) _ false HR.out).mono ?_
            rintro e w2 ⟨rfl, rfl⟩
            go_wp2
            go_ret
            exact ⟨ret_bool HF.out.symm, hB3⟩
        have HR : Hid ((decide (-1 ≤ y1) && decide (y1 ≤ (k : Int) - 1)) = true) := hr
        have hu : upB k y1 = true := by rw [HUE.out, hr]
        by_cases hdl : y2 < 0
        · have hdl' : decide (y2 < 0) = true := by simpa using hdl
          have HF : Hid (x = false) := by rw [Hid, ← HX.out]; exact scopesB_bad k hlt (scB_end HY.out (by simp [endB]; omega))
          clear hr hu
          cases b1 <;> cases b2 <;> simp at hodd
          all_goals
            go_wp2_with fail
            refine (l1In_is y1 (-1) ((k : Int) - 1) _ true HR.out).mono ?_
            rintro e w2 ⟨rfl, rfl⟩
            go_wp2
            go_ret
            exact ⟨ret_bool HF.out.symm, hB3⟩
        have hdl' : decide (y2 < 0) = false := by simpa using hdl
        cases hw : (decide (0 ≤ y3) && decide (y3 ≤ 2))
        · have HW : Hid ((decide (0 ≤ y3) && decide (y3 ≤ 2)) = false) := hw
          have HF : Hid (x = false) := by rw [Hid, ← HX.out]; exact scopesB_bad k hlt (scB_end HY.out (by dsimp only; rw [endB, hw]; simp))
          clear hr hu hw
          cases b1 <;> cases b2 <;> simp at hodd
          all_goals
            go_wp2_with fail
            refine (l1In_is y1 (-1) ((k : Int) - 1) _ true HR.out).mono ?_
            rintro e w2 ⟨rfl, rfl⟩
            go_wp2_with fail
            refine (l1In_is y3 0 2 _ false HW.out).mono ?_
            rintro e w2 ⟨rfl, rfl⟩
            go_wp2
            go_ret
            exact ⟨ret_bool HF.out.symm, hB3⟩
        have HW : Hid ((decide (0 ≤ y3) && decide (y3 ≤ 2)) = true) := hw
        have HT : Hid (scB l k = !(aboveB l y1 && (y3 == 0))) := scB_tail HY.out (by dsimp only; rw [endB, hw]; simp; omega) hu
        have hin := upB_in hu
        clear hr hw hu
        by_cases hk0 : k = 0
        · have e1 : y1 = -1 := by rcases hin with h | h; exact h; omega
          have HK : Hid (scB l k = true) := by rw [Hid, HT.out, e1]; rfl
          have hk0' : decide ((0 : Int) < (k : Int)) = false := by simp [hk0]
          have hk0n : decide (0 < k) = false := by simp [hk0]
          clear e1 hin
          have eb1 : b1 = true := by rw [← hb1]; simp [hk0]
          have eb2 : b2 = true := by subst eb1; cases b2 <;> simp at hodd <;> rfl
          subst eb1 eb2
          clear hodd
          clear hk0
          go_wp2_with fail
          refine (l1In_is y1 (-1) ((k : Int) - 1) _ true HR.out).mono ?_
          rintro e w2 ⟨rfl, hw2⟩
          subst hw2
          go_wp2_with fail
          refine (l1In_is y3 0 2 _ true HW.out).mono ?_
          rintro e w2 ⟨rfl, hw2⟩
          subst hw2
          go_wp2
          go_roundw
          case rel => exact ⟨k + 1, by omega, by go_num, fun j hj => by
            rcases Nat.lt_succ_iff_lt_or_eq.1 hj with h | rfl
            · exact hno.out j h
            · exact HK.out, hB3⟩
          case measure => simp [intOf]; omega
        · have hin' : 0 ≤ y1 ∧ y1 < k := by
            rcases hin with h | h
            · subst h
              have e1 : b1 = false := by rw [← hb1]; simp [hk0]
              have e2 : b2 = true := by rw [← hb2]; rfl
              subst e1 e2; simp at hodd
            · exact h
          obtain ⟨u, rfl⟩ : ∃ u : Nat, y1 = u := ⟨y1.toNat, by omega⟩
          have hul : u < l.length := by omega
          have cu := (hB.cell (p := ⟨b, off + u * 3 + 2, none⟩) hb0).trans (HC.out u hul)
          obtain ⟨z, ez⟩ : ∃ z, z = (el l u).2.2 := ⟨_, rfl⟩
          rw [← ez] at cu
          have HA : Hid (aboveB l u = (z != 0)) := by rw [Hid, ez, aboveB]; simp
          have hk0' : decide ((0 : Int) < (k : Int)) = true := by simp; omega
          have hk0n : decide (0 < k) = true := by simp; omega
          have hul' : (u : Int) < (l.length : Int) := by omega
          clear ez hin hin' HC
          have eb1 : b1 = false := by rw [← hb1]; simp [hk0]
          have eb2 : b2 = false := by subst eb1; cases b2 <;> simp at hodd <;> rfl
          subst eb1 eb2
          clear hodd
          by_cases hz0 : z = 0
          · have hz0' : (z != 0) = false := by simpa using hz0
            have HK : Hid (scB l k = true) := by rw [Hid, HT.out, HA.out, hz0']; rfl
            clear hz0 hk0
            go_wp2_with fail
            refine (l1In_is u (-1) ((k : Int) - 1) _ true HR.out).mono ?_
            rintro e w2 ⟨rfl, hw2⟩
            subst hw2
            go_wp2_with fail
            refine (l1In_is y3 0 2 _ true HW.out).mono ?_
            rintro e w2 ⟨rfl, hw2⟩
            subst hw2
            go_wp2
            go_roundw
            case rel => exact ⟨k + 1, by omega, by go_num, fun j hj => by
              rcases Nat.lt_succ_iff_lt_or_eq.1 hj with h | rfl
              · exact hno.out j h
              · exact HK.out, hB3⟩
            case measure => simp [intOf]; omega
          · have hz0' : (z != 0) = true := by simpa using hz0
            obtain ⟨y, hy⟩ : ∃ y, (y3 == 0) = y := ⟨_, rfl⟩
            have HK : Hid (scB l k = !y) := by rw [Hid, HT.out, HA.out, hz0', hy]; rfl
            clear hz0 hk0
            go_wp2_with fail
            refine (l1In_is u (-1) ((k : Int) - 1) _ true HR.out).mono ?_
            rintro e w2 ⟨rfl, hw2⟩
            subst hw2
            go_wp2_with fail
            refine (l1In_is y3 0 2 _ true HW.out).mono ?_
            rintro e w2 ⟨rfl, hw2⟩
            subst hw2
            cases y
            · go_wp2
              go_roundw
              case rel => exact ⟨k + 1, by omega, by go_num, fun j hj => by
                rcases Nat.lt_succ_iff_lt_or_eq.1 hj with h | rfl
                · exact hno.out j h
                · exact HK.out, hB3⟩
              case measure => simp [intOf]; omega
            · have HF : Hid (x = false) := by rw [Hid, ← HX.out]; exact scopesB_bad k hlt HK.out
              go_wp2
              go_ret
              exact ⟨ret_bool HF.out.symm, hB3⟩
    · obtain rfl : k = l.length := by omega
      have HT : Hid (x = true) := by rw [Hid, ← HX.out]; exact scopesB_end (by omega) hno.out
      go_wp2
      go_ret
      exact ⟨ret_bool HT.out.symm, hB⟩
end Go.Proofs.Ytcdkdigafcfgmaa
