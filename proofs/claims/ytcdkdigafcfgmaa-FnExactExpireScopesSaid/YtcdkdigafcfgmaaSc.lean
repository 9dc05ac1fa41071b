/- Whether scopes are good: the program and the specification. No conditions but those written. -/
import Derived.Test.YtcdkdigafcfgmaaSb
namespace Go.Proofs.Ytcdkdigafcfgmaa
open Go.RowKit

/-- The scope at a place is good. -/
def scB (l : List Sc) (k : Nat) : Bool := (endB (el l k).2.1 (el l k).2.2 && upB k (el l k).1) && !(aboveB l (el l k).1 && ((el l k).2.2 == 0))
/-- Scopes are good. -/
def scopesB (l : List Sc) : Bool := decide (l.length ≤ 20) && (List.range l.length).all (scB l)
theorem scopesB_long {l : List Sc} (h : 20 < l.length) : scopesB l = false := by
  have : decide (l.length ≤ 20) = false := by simp; omega
  simp [scopesB, this]
theorem scopesB_bad {l : List Sc} (k : Nat) (hk : k < l.length) (h : scB l k = false) : scopesB l = false := by
  have : (List.range l.length).all (scB l) = false := by rw [List.all_eq_false]; exact ⟨k, by simpa using hk, by simp [h]⟩
  simp [scopesB, this]
theorem scopesB_end {l : List Sc} (h : l.length ≤ 20) (hk : ∀ j, j < l.length → scB l j = true) : scopesB l = true := by
  have : (List.range l.length).all (scB l) = true := by rw [List.all_eq_true]; intro x hx; exact hk x (by simpa using hx)
  simp [scopesB, this, h]
theorem scopesB_good {l : List Sc} (h : scopesB l = true) : l.length ≤ 20 ∧ ∀ j, j < l.length → scB l j = true := by
  simp only [scopesB, Bool.and_eq_true, decide_eq_true_eq, List.all_eq_true] at h
  exact ⟨h.1, fun j hj => h.2 j (by simpa using hj)⟩
theorem upB_in {k : Nat} {up : Int} (h : upB k up = true) : up = -1 ∨ (0 ≤ up ∧ up < k) := by
  unfold upB at h
  split at h
  · simp at h; exact .inl h
  · simp at h; exact .inr h
theorem scB_end {l : List Sc} {k : Nat} {y : Sc} (hy : el l k = y) (h : endB y.2.1 y.2.2 = false) : scB l k = false := by rw [scB, hy, h]; rfl
theorem scB_up {l : List Sc} {k : Nat} {y : Sc} (hy : el l k = y) (h : upB k y.1 = false) : scB l k = false := by rw [scB, hy, h]; simp
theorem scB_tail {l : List Sc} {k : Nat} {y : Sc} (hy : el l k = y) (h : endB y.2.1 y.2.2 = true) (h2 : upB k y.1 = true) : scB l k = !(aboveB l y.1 && (y.2.2 == 0)) := by rw [scB, hy, h, h2]; rfl

set_option maxHeartbeats 4000000 in
theorem implGoodScopes_is (ao : Option Addr) (cap : Nat) (l : List Sc) (w : World) (x : Bool) (hl : l.length ≤ 1048576) (hz : kS.In w.heap.size w ao l) (hx : scopesB l = x) :
    Calls Try.prog 45 #[.slice ao l.length cap] w fun e w' => e = .returned (.bool x) ∧ Below w.heap.size w w' := by
  by_cases h20 : 20 < l.length
  · have HX : Hid (x = false) := by rw [Hid, ← hx, scopesB_long h20]
    clear hx
    go_enter Try.func45, Try.ntmps45
    go_wp2
    go_ret
    exact ⟨ret_bool HX.out.symm, Below.refl _ _⟩
  have h20' : decide ((20 : Int) < (l.length : Int)) = false := by simp; omega
  have HX : Hid (scopesB l = x) := hx
  clear hx
  go_enter Try.func45, Try.ntmps45
  go_wp2_with fail
  refine (branchesOf_any ao cap l w hl hz).mono ?_
  rintro e w1 ⟨⟨v, rfl, hO⟩, hB1⟩
  obtain ⟨bo, bc, rfl, _, hI⟩ := hO.in
  clear hO
  go_wp2
  go_loopw [13] (fun i wr => ∃ k : Nat, k ≤ l.length ∧ i = .int .i64 k ∧ Hid (∀ j, j < k → scB l j = true) ∧ Below w1.heap.size w1 wr) (fun i _ => l.length - (intOf i).toNat)
  case atStart => exact ⟨0, Nat.zero_le _, rfl, fun j hj => by omega, Below.refl _ _⟩
  case round =>
    obtain ⟨k, hk, rfl, hno, hb⟩ := hrel
    have hB := hB1.trans (hb.mono hB1.size)
    by_cases hlt : k < l.length
    · have HI : Hid (kB.In wr.heap.size wr bo l) := hI.later hb
      obtain ⟨b, off, rfl, hb0, hc⟩ := kB_at hI hlt
      have d1 := (hb.cell (p := ⟨b, off + k * 3, none⟩) hb0).trans (hc k hlt).1
      have d2 := (hb.cell (p := ⟨b, off + k * 3 + 1, none⟩) hb0).trans (hc k hlt).2.1
      have d3 := (hb.cell (p := ⟨b, off + k * 3 + 2, none⟩) hb0).trans (hc k hlt).2.2
      obtain ⟨⟨y1, y2, y3⟩, ey⟩ : ∃ v, v = el l k := ⟨_, rfl⟩
      rw [← ey] at d1 d2 d3
      have HY : Hid (el l k = (y1, y2, y3)) := ey.symm
      clear ey hc hI
      dsimp only at d1 d2 d3
      have hn := below1 wr (.cells #[.int .i64 y2, .int .i64 y3, .int .i64 y1] 112)
      have X0 : Bx (wr.alloc (.cells #[.int .i64 y2, .int .i64 y3, .int .i64 y1] 112)) wr.heap.size [.int .i64 y2, .int .i64 y3, .int .i64 y1] := Bx.new _ _ rfl
      cases he : endB y2 y3
      · have HE : Hid (endB y2 y3 = false) := he
        have HF : Hid (x = false) := by rw [Hid, ← HX.out]; exact scopesB_bad k hlt (scB_end HY.out he)
        clear he
        go_wp2_with fail
        refine (goodEnd_is y2 y3 _ false HE.out).mono ?_
        rintro e w2 ⟨rfl, hb2⟩
        have hb3 := hn.trans (hb2.mono (by simp))
        have hB3 := hB.trans (hb3.mono hB.size)
        go_wp2
        go_ret
        exact ⟨ret_bool HF.out.symm, hB3⟩
      have HE : Hid (endB y2 y3 = true) := he
      cases hu : upB k y1
      · have HU : Hid (upB k y1 = false) := hu
        have HF : Hid (x = false) := by rw [Hid, ← HX.out]; exact scopesB_bad k hlt (scB_up HY.out hu)
        clear he hu
        go_wp2_with fail
        refine (goodEnd_is y2 y3 _ true HE.out).mono ?_
        rintro e w2 ⟨rfl, hb2⟩
        have hb3 := hn.trans (hb2.mono (by simp))
        have hB3 := hB.trans (hb3.mono hB.size)
        have X2 := X0.later hb2
        have x0 := X2.c 0 rfl
        have x1 := X2.c 1 rfl
        have x2 := X2.c 2 rfl
        clear hb2 X0
        go_wp2_with fail
        refine (goodUp_is k y1 _ false HU.out).mono ?_
        rintro e w3 ⟨rfl, rfl⟩
        go_wp2
        go_ret
        exact ⟨ret_bool HF.out.symm, hB3⟩
      have HU : Hid (upB k y1 = true) := hu
      have HT : Hid (scB l k = !(aboveB l y1 && (y3 == 0))) := scB_tail HY.out he hu
      have hup : y1 = -1 ∨ (0 ≤ y1 ∧ y1 < l.length) := by rcases upB_in hu with h | h; exact .inl h; exact .inr ⟨h.1, by omega⟩
      have HUP : Hid (y1 = -1 ∨ (0 ≤ y1 ∧ y1 < l.length)) := hup
      clear he hu hup
      cases ha : aboveB l y1
      · have HA : Hid (aboveB l y1 = false) := ha
        have HK : Hid (scB l k = true) := by rw [Hid, HT.out, ha]; rfl
        clear ha
        go_wp2_with fail
        refine (goodEnd_is y2 y3 _ true HE.out).mono ?_
        rintro e w2 ⟨rfl, hb2⟩
        have hb3 := hn.trans (hb2.mono (by simp))
        have X2 := X0.later hb2
        have x0 := X2.c 0 rfl
        have x1 := X2.c 1 rfl
        have x2 := X2.c 2 rfl
        clear hb2 X0
        go_wp2_with fail
        refine (goodUp_is k y1 _ true HU.out).mono ?_
        rintro e w3 ⟨rfl, hw3⟩
        subst hw3
        go_wp2_with fail
        refine (endedAbove_is (some ⟨b, off, none⟩) bc l y1 _ false HUP.out (HI.out.later hb3) HA.out).mono ?_
        rintro e w4 ⟨rfl, hb4⟩
        have hb5 := hb3.trans (hb4.mono hb3.size)
        have hb6 : Below w1.heap.size w1 w4 := hb.trans (hb5.mono hb.size)
        clear hb4 hb3 x0 x1 x2 X2
        go_wp2
        go_roundw
        case rel => exact ⟨k + 1, by omega, by go_num, fun j hj => by
          rcases Nat.lt_succ_iff_lt_or_eq.1 hj with h | rfl
          · exact hno.out j h
          · exact HK.out, hb6⟩
        case measure => simp [intOf]; omega
      · have HA : Hid (aboveB l y1 = true) := ha
        obtain ⟨z, hz3⟩ : ∃ z, (y3 != 0) = z := ⟨_, rfl⟩
        have HZ3 : Hid ((y3 != 0) = z) := hz3
        have HK : Hid (scB l k = z) := by rw [Hid, HT.out, ha, ← hz3]; simp [bne]
        clear ha hz3
        go_wp2_with fail
        refine (goodEnd_is y2 y3 _ true HE.out).mono ?_
        rintro e w2 ⟨rfl, hb2⟩
        have hb3 := hn.trans (hb2.mono (by simp))
        have X2 := X0.later hb2
        have x0 := X2.c 0 rfl
        have x1 := X2.c 1 rfl
        have x2 := X2.c 2 rfl
        clear hb2 X0
        go_wp2_with fail
        refine (goodUp_is k y1 _ true HU.out).mono ?_
        rintro e w3 ⟨rfl, hw3⟩
        subst hw3
        go_wp2_with fail
        refine (endedAbove_is (some ⟨b, off, none⟩) bc l y1 _ true HUP.out (HI.out.later hb3) HA.out).mono ?_
        rintro e w4 ⟨rfl, hb4⟩
        have hb5 := hb3.trans (hb4.mono hb3.size)
        have X4 := X2.later hb4
        clear x0 x1 x2 X2 hb4 hb3
        have x0 := X4.c 0 rfl
        have x1 := X4.c 1 rfl
        have x2 := X4.c 2 rfl
        go_wp2_with fail
        refine (ended_is y2 y3 _ z HZ3.out).mono ?_
        rintro e w5 ⟨rfl, hb6⟩
        have hb7 := hb5.trans (hb6.mono hb5.size)
        have hb8 : Below w1.heap.size w1 w5 := hb.trans (hb7.mono hb.size)
        have hB8 := hB1.trans (hb8.mono hB1.size)
        clear x0 x1 x2 X4 hb6 hb5
        cases z
        · have HF : Hid (x = false) := by rw [Hid, ← HX.out]; exact scopesB_bad k hlt HK.out
          go_wp2
          go_ret
          exact ⟨ret_bool HF.out.symm, hB8⟩
        · go_wp2
          go_roundw
          case rel => exact ⟨k + 1, by omega, by go_num, fun j hj => by
            rcases Nat.lt_succ_iff_lt_or_eq.1 hj with h | rfl
            · exact hno.out j h
            · exact HK.out, hb8⟩
          case measure => simp [intOf]; omega
    · obtain rfl : k = l.length := by omega
      have HT : Hid (x = true) := by rw [Hid, ← HX.out]; exact scopesB_end (by omega) hno.out
      go_wp2
      go_ret
      exact ⟨ret_bool HT.out.symm, hB⟩
end Go.Proofs.Ytcdkdigafcfgmaa
