
/- The contract of spec.GoodBoard. No conditions but those written. -/
import Derived.Test.YtgbnbnjfaffaiaaOWb
namespace Go.Proofs.Ytgbnbnjfaffaiaa.Old
open Go.RowKit

set_option maxHeartbeats 2000000 in
theorem specGood_many (ao : Option Addr) (cap : Nat) (ts : List (Int × Int)) (qo : Option Addr) (qcap : Nat) (q : List Int) (w : World) (hl : ts.length ≤ 1048576) (h30 : 30 < ts.length) :
    Calls Try.prog 23 #[.agg #[.slice ao ts.length cap, .slice qo q.length qcap]] w fun e w' => e = .returned (.bool (specGoodB ts q)) ∧ Below w.heap.size w w' := by
  have HF : Hid (specGoodB ts q = false) := specGoodB_many ts q h30
  go_enter Try.func23, Try.ntmps23
  go_wp2
  go_ret
  exact ⟨ret_bool HF.out.symm, below1 _ _⟩

set_option maxHeartbeats 4000000 in
theorem specGood_few (ao : Option Addr) (cap : Nat) (ts : List (Int × Int)) (qo : Option Addr) (qcap : Nat) (q : List Int) (w : World) (hlq : q.length ≤ 1048576) (h30 : ts.length ≤ 30) (hz : TasksIn w.heap.size w ao ts) (hq : IntsIn w.heap.size w qo q) :
    Calls Try.prog 23 #[.agg #[.slice ao ts.length cap, .slice qo q.length qcap]] w fun e w' => e = .returned (.bool (specGoodB ts q)) ∧ Below w.heap.size w w' := by
  go_enter Try.func23, Try.ntmps23
  go_wp2
  go_loopw [3, 4, 14] (fun r y i wr => ∃ k : Nat, k ≤ ts.length ∧ i = .int .i64 k ∧ r = .int .i64 (runsN (ts.take k)) ∧ y = .int .i64 (readyN (ts.take k)) ∧ Hid (∀ j, j < k → specRowB ts q j = true) ∧ Below (w.heap.size + 1) (w.alloc (.cells #[.slice ao ts.length cap, .slice qo q.length qcap] 26)) wr) (fun _ _ i _ => ts.length - (intOf i).toNat)
  case atStart => exact ⟨0, Nat.zero_le _, rfl, by simp [runsN], by simp [readyN], fun j hj => by omega, Below.refl _ _⟩
  case round =>
    obtain ⟨k, hk, rfl, rfl, rfl, hno, hnx⟩ := hrel
    have hsz := hnx.size
    simp only [World.size_alloc] at hsz
    have hbx0 : wr.cell? ⟨w.heap.size, 0, none⟩ = some (.slice ao ts.length cap) := (hnx.cell (p := ⟨w.heap.size, 0, none⟩) (by simp)).trans (by simp)
    have hbx1 : wr.cell? ⟨w.heap.size, 1, none⟩ = some (.slice qo q.length qcap) := (hnx.cell (p := ⟨w.heap.size, 1, none⟩) (by simp)).trans (by simp)
    have hlt0 : w.heap.size < wr.heap.size := by omega
    have hB : Below w.heap.size w wr := (below1 w _).trans (hnx.mono (by omega))
    have hrl := runsN_take_le ts k
    have hyl := readyN_take_le ts k
    by_cases hlt : k < ts.length
    · obtain ⟨b, off, rfl, hb, hc⟩ := hz.pos hlt
      have hck1 := (hB.cell (p := ⟨b, off + k * 2, none⟩) hb).trans (hc k hlt).1
      have hck2 := (hB.cell (p := ⟨b, off + k * 2 + 1, none⟩) hb).trans (hc k hlt).2
      clear hc hz
      obtain ⟨s, hs⟩ : ∃ s, s = (ts[k]?.getD (0, 0)).1 := ⟨_, rfl⟩
      obtain ⟨p, hp⟩ : ∃ p, p = (ts[k]?.getD (0, 0)).2 := ⟨_, rfl⟩
      rw [← hs] at hck1
      rw [← hp] at hck2
      have HR : Hid (runsN (ts.take (k + 1)) = runsN (ts.take k) + (if s = 2 then 1 else 0)) := by rw [hs]; exact runsN_snoc ts k hlt
      have HY : Hid (readyN (ts.take (k + 1)) = readyN (ts.take k) + (if s = 1 then 1 else 0)) := by rw [hs]; exact readyN_snoc ts k hlt
      have HX : Hid (specRowB ts q k = (specTaskB s p && (!decide (s = 1) || hasB q k))) := by rw [hs, hp]; rfl
      clear hs hp
      generalize runsN (ts.take k) = rk at *
      generalize readyN (ts.take k) = yk at *
      by_cases h1 : 1 ≤ s ∧ s ≤ 4
      · obtain ⟨h1a, h1b⟩ := h1
        by_cases h2 : 0 ≤ p ∧ p ≤ 1000000
        · obtain ⟨h2a, h2b⟩ := h2
          by_cases h3 : s = 1
          · subst h3
            have hqr : IntsIn w.heap.size (wr.alloc (.cells #[.int .i64 1, .int .i64 p] 34)) qo q := hq.below (hB.alloc (by omega) _)
            have hnb : Below (w.heap.size + 1) (w.alloc (.cells #[.slice (some ⟨b, off, none⟩) ts.length cap, .slice qo q.length qcap] 26)) (wr.alloc (.cells #[.int .i64 1, .int .i64 p] 34)) := hnx.alloc hsz _
            cases hh : hasB q k
            · have HF : Hid (specGoodB ts q = false) := specGoodB_row ts q k hlt (by rw [HX.out, hh]; simp)
              have HH : Hid (hasB q k = false) := hh
              clear hh
              go_wp2_with fail
              refine (l1In_is _ _ _ _ true (by simp)).mono ?_
              rintro e w1 ⟨rfl, rfl⟩
              go_wp2_with fail
              refine (l1In_is _ _ _ _ true (by simp [h2a, h2b])).mono ?_
              rintro e w1 ⟨rfl, rfl⟩
              go_wp2_with fail
              refine (l1Has_is _ _ _ _ _ _ false hlq hqr HH.out).mono ?_
              rintro e w1 ⟨rfl, rfl⟩
              go_wp2
              go_ret
              exact ⟨ret_bool HF.out.symm, hB.alloc (by omega) _⟩
            · have HT : Hid (specRowB ts q k = true) := by
                rw [Hid, HX.out, hh]; simp [specTaskB, h2a, h2b]
              have HH : Hid (hasB q k = true) := hh
              clear hh
              go_wp2_with fail
              refine (l1In_is _ _ _ _ true (by simp)).mono ?_
              rintro e w1 ⟨rfl, rfl⟩
              go_wp2_with fail
              refine (l1In_is _ _ _ _ true (by simp [h2a, h2b])).mono ?_
              rintro e w1 ⟨rfl, rfl⟩
              go_wp2_with fail
              refine (l1Has_is _ _ _ _ _ _ true hlq hqr HH.out).mono ?_
              rintro e w1 ⟨rfl, rfl⟩
              go_wp2
              go_roundw
              case rel => exact ⟨k + 1, by omega, by go_num, by rw [HR.out]; go_num, by rw [HY.out]; go_num, fun j hj => by
                rcases Nat.lt_succ_iff_lt_or_eq.1 hj with h | rfl
                · exact hno.out j h
                · exact HT.out, hnb⟩
              case measure => simp [intOf]; omega
          · have h3' : (s != 1) = true := by simpa using h3
            have h3'' : (s == 1) = false := by simpa using h3
            by_cases h4 : p = 0
            · subst h4
              have hnb : Below (w.heap.size + 1) (w.alloc (.cells #[.slice (some ⟨b, off, none⟩) ts.length cap, .slice qo q.length qcap] 26)) (wr.alloc (.cells #[.int .i64 s, .int .i64 0] 34)) := hnx.alloc hsz _
              have HT : Hid (specRowB ts q k = true) := by
                rw [Hid, HX.out]; simp [specTaskB, h3, h1a, h1b]
              have HY2 : Hid (readyN (ts.take (k + 1)) = yk) := by rw [Hid, HY.out, if_neg h3]; rfl
              by_cases h5 : s = 2
              · have HR2 : Hid (runsN (ts.take (k + 1)) = rk + 1) := by rw [Hid, HR.out, if_pos h5]
                subst h5
                clear h3
                go_wp2_with fail
                refine (l1In_is _ _ _ _ true (by simp)).mono ?_
                rintro e w1 ⟨rfl, rfl⟩
                go_wp2_with fail
                refine (l1In_is _ _ _ _ true (by simp)).mono ?_
                rintro e w1 ⟨rfl, rfl⟩
                go_wp2
                go_roundw
                case rel => exact ⟨k + 1, by omega, by go_num, by rw [HR2.out]; go_num, by rw [HY2.out], fun j hj => by
                  rcases Nat.lt_succ_iff_lt_or_eq.1 hj with h | rfl
                  · exact hno.out j h
                  · exact HT.out, hnb⟩
                case measure => simp [intOf]; omega
              · have HR2 : Hid (runsN (ts.take (k + 1)) = rk) := by rw [Hid, HR.out, if_neg h5]; rfl
                have h5' : (s == 2) = false := by simpa using h5
                clear h3 h5
                go_wp2_with fail
                refine (l1In_is _ _ _ _ true (by simp [h1a, h1b])).mono ?_
                rintro e w1 ⟨rfl, rfl⟩
                go_wp2_with fail
                refine (l1In_is _ _ _ _ true (by simp)).mono ?_
                rintro e w1 ⟨rfl, rfl⟩
                go_wp2
                go_roundw
                case rel => exact ⟨k + 1, by omega, by go_num, by rw [HR2.out], by rw [HY2.out], fun j hj => by
                  rcases Nat.lt_succ_iff_lt_or_eq.1 hj with h | rfl
                  · exact hno.out j h
                  · exact HT.out, hnb⟩
                case measure => simp [intOf]; omega
            · have h4' : (p != 0) = true := by simpa using h4
              have HF : Hid (specGoodB ts q = false) := specGoodB_row ts q k hlt (by rw [HX.out]; simp [specTaskB, h3, h4])
              clear h3 h4
              go_wp2_with fail
              refine (l1In_is _ _ _ _ true (by simp [h1a, h1b])).mono ?_
              rintro e w1 ⟨rfl, rfl⟩
              go_wp2_with fail
              refine (l1In_is _ _ _ _ true (by simp [h2a, h2b])).mono ?_
              rintro e w1 ⟨rfl, rfl⟩
              go_wp2
              go_ret
              exact ⟨ret_bool HF.out.symm, hB.alloc (by omega) _⟩
        · have e2 : (decide (0 ≤ p) && decide (p ≤ 1000000)) = false := by simp; omega
          have HF : Hid (specGoodB ts q = false) := specGoodB_row ts q k hlt (by rw [HX.out]; simp only [specTaskB, e2]; simp)
          have E2 : Hid ((decide (0 ≤ p) && decide (p ≤ 1000000)) = false) := e2
          clear e2 h2
          go_wp2_with fail
          refine (l1In_is _ _ _ _ true (by simp [h1a, h1b])).mono ?_
          rintro e w1 ⟨rfl, rfl⟩
          go_wp2_with fail
          refine (l1In_is _ _ _ _ false E2.out).mono ?_
          rintro e w1 ⟨rfl, rfl⟩
          go_wp2
          go_ret
          exact ⟨ret_bool HF.out.symm, hB.alloc (by omega) _⟩
      · have e1 : (decide (1 ≤ s) && decide (s ≤ 4)) = false := by simp; omega
        have HF : Hid (specGoodB ts q = false) := specGoodB_row ts q k hlt (by rw [HX.out]; simp only [specTaskB, e1]; simp)
        have E1 : Hid ((decide (1 ≤ s) && decide (s ≤ 4)) = false) := e1
        clear e1 h1
        go_wp2_with fail
        refine (l1In_is _ _ _ _ false E1.out).mono ?_
        rintro e w1 ⟨rfl, rfl⟩
        go_wp2
        go_ret
        exact ⟨ret_bool HF.out.symm, hB.alloc (by omega) _⟩
    · obtain rfl : k = ts.length := by omega
      have HE : Hid (specGoodB ts q = (decide (runsN ts < 2) && decide (q.length = readyN ts))) := specGoodB_end ts q h30 hno.out
      rw [List.take_length] at *
      generalize runsN ts = rk at *
      generalize readyN ts = yk at *
      by_cases h2 : rk < 2
      · go_wp2
        go_ret
        refine ⟨ret_bool ?_, hB⟩
        rw [HE.out]
        exact end_yes _ _ _ h2
      · have h2' : decide ((rk : Int) < 2) = false := by simp; omega
        go_wp2
        go_ret
        refine ⟨ret_bool ?_, hB⟩
        rw [HE.out]
        exact end_no _ _ _ h2
theorem specGood_any (ao : Option Addr) (cap : Nat) (ts : List (Int × Int)) (qo : Option Addr) (qcap : Nat) (q : List Int) (w : World) (hl : ts.length ≤ 1048576) (hlq : q.length ≤ 1048576) (hz : TasksIn w.heap.size w ao ts) (hq : IntsIn w.heap.size w qo q) :
    Calls Try.prog 23 #[.agg #[.slice ao ts.length cap, .slice qo q.length qcap]] w fun e w' => e = .returned (.bool (specGoodB ts q)) ∧ Below w.heap.size w w' := by
  by_cases h : ts.length ≤ 30
  · exact specGood_few ao cap ts qo qcap q w hlq h hz hq
  · exact specGood_many ao cap ts qo qcap q w hl (by omega)
end Go.Proofs.Ytgbnbnjfaffaiaa.Old
