
/- Where one gives up: both sides. No conditions but those written. -/
import Derived.Test.YthhamfgclhiagaaTl
namespace Go.Proofs.Ythhamfgclhiagaa
open Go.RowKit

theorem ticksAbove_len {ao : Option Addr} {cap n : Nat} {zs : List Int} {lim : Int} {w : World} (hn : n = zs.length) (hl : zs.length ≤ 1048576) (hz : kI.In w.heap.size w ao zs) :
    Calls Try.prog 50 #[.slice ao n cap, .int .i64 lim] w fun e w' => AnsV w (above zs lim) e w' := by subst hn; exact ticksAbove_any ao cap zs lim w hl hz
theorem l10Recent_len {ao : Option Addr} {cap n : Nat} {zs : List Int} {tick within : Int} {w : World} (hn : n = zs.length) (hl : zs.length ≤ 1048576) (ht : 0 ≤ tick) (ht1 : tick ≤ 1000000) (hw : 1 ≤ within) (hw1 : within ≤ 1000) (hz : kI.In w.heap.size w ao zs) :
    Calls Try.prog 49 #[.slice ao n cap, .int .i64 tick, .int .i64 within] w fun e w' => AnsV w (above zs (tick - within) ++ [tick]) e w' := by subst hn; exact l10Recent_any ao cap zs tick within w hl ht ht1 hw hw1 hz
/-- So many faults count at a place. -/
def gOf (zs : List Int) (wi : Int) (k : Nat) : Nat := (above (zs.take k) (el zs k - wi)).length + 1
theorem gOf_spec (zs : List Int) (wi : Int) (k : Nat) : (above (zs.take k) (el zs k - wi) ++ [el zs k]).length = gOf zs wi k := by simp [gOf]
theorem gOf_impl {zs : List Int} {wi : Int} {k : Nat} (hk : k < zs.length) (hw : 1 ≤ wi) : (above (zs.take (k + 1)) (el zs k - wi)).length = gOf zs wi k := by
  rw [above_in hk (by omega)]; simp [gOf]
theorem gOf_le {zs : List Int} {wi : Int} {k : Nat} (hk : k < zs.length) : gOf zs wi k ≤ zs.length := by
  have := above_le (zs.take k) (el zs k - wi)
  rw [gOf]; simp at this; omega
/-- The first place at which one gives up, -1 where there is none. -/
def firstG (zs : List Int) (m wi : Int) : Int := match (List.range zs.length).find? (fun k => decide (m < (gOf zs wi k : Int))) with | some k => (k : Int) | none => -1
theorem firstG_yes {zs : List Int} {m wi : Int} {k : Nat} (hk : k < zs.length) (h : m < (gOf zs wi k : Int)) (hno : ∀ j, j < k → (gOf zs wi j : Int) ≤ m) : firstG zs m wi = k := by
  have : (List.range zs.length).find? (fun k => decide (m < (gOf zs wi k : Int))) = some k := by
    rw [List.find?_range_eq_some]
    exact ⟨by simpa using h, List.mem_range.2 hk, fun j hj => by simpa using hno j hj⟩
  rw [firstG, this]
theorem firstG_no {zs : List Int} {m wi : Int} (hno : ∀ j, j < zs.length → (gOf zs wi j : Int) ≤ m) : firstG zs m wi = -1 := by
  have : (List.range zs.length).find? (fun k => decide (m < (gOf zs wi k : Int))) = none := by
    rw [List.find?_range_eq_none]
    exact fun j hj => by simpa using hno j hj
  rw [firstG, this]
/-- GivesUp. -/
def givesR (zs : List Int) (m wi : Int) : Int × Bool := if decide (zs.length ≤ 100) && ticksB zs && maxRB m && withinB wi then (firstG zs m wi, true) else (0, false)
set_option maxRecDepth 10000 in
set_option maxHeartbeats 4000000 in
theorem implGives_any (ao : Option Addr) (cap : Nat) (zs : List Int) (m wi : Int) (w : World) (hl : zs.length ≤ 1048576) (hcap : zs.length ≤ cap) (hz : kI.In w.heap.size w ao zs) :
    Calls Try.prog 28 #[.slice ao zs.length cap, .int .i64 m, .int .i64 wi] w fun e w' => e = .returned (.tuple #[.int .i64 (givesR zs m wi).1, .bool (givesR zs m wi).2]) ∧ Below w.heap.size w w' := by
  by_cases h100 : zs.length > 100
  · have HR : Hid (givesR zs m wi = (0, false)) := by rw [Hid, givesR, decide_eq_false (by omega)]; rfl
    go_enter Try.func28, Try.ntmps28
    go_wp2
    refine bodyPost_ret (v := .tuple #[.int .i64 0, .bool false]) (by simp [results, Try.results28, go_sem]) rfl ?_
    rw [HR.out]
    exact ⟨rfl, Below.refl _ _⟩
  cases ht0 : ticksB zs
  · have HT := hid ht0
    have HR : Hid (givesR zs m wi = (0, false)) := by rw [Hid, givesR, ht0]; simp
    clear ht0
    go_enter Try.func28, Try.ntmps28
    go_wp2_with fail
    refine (implTicks_is ao cap zs _ false (by omega) hz HT.out).mono ?_
    rintro e w1 ⟨rfl, hB⟩
    go_wp2
    refine bodyPost_ret (v := .tuple #[.int .i64 0, .bool false]) (by simp [results, Try.results28, go_sem]) rfl ?_
    rw [HR.out]
    exact ⟨rfl, hB⟩
  have HT := hid ht0
  clear ht0
  cases ht1 : maxRB m
  · have HM := hid ht1
    have HR : Hid (givesR zs m wi = (0, false)) := by rw [Hid, givesR, ht1]; simp
    clear ht1
    go_enter Try.func28, Try.ntmps28
    go_wp2_with fail
    refine (implTicks_is ao cap zs _ true (by omega) hz HT.out).mono ?_
    rintro e w1 ⟨rfl, hB⟩
    go_wp2_with fail
    refine (goodMaxR_is m _ false HM.out).mono ?_
    rintro e w2 ⟨rfl, hw2⟩
    subst hw2
    go_wp2
    refine bodyPost_ret (v := .tuple #[.int .i64 0, .bool false]) (by simp [results, Try.results28, go_sem]) rfl ?_
    rw [HR.out]
    exact ⟨rfl, hB⟩
  have HM := hid ht1
  clear ht1
  cases ht2 : withinB wi
  · have HW := hid ht2
    have HR : Hid (givesR zs m wi = (0, false)) := by rw [Hid, givesR, ht2]; simp
    clear ht2
    go_enter Try.func28, Try.ntmps28
    go_wp2_with fail
    refine (implTicks_is ao cap zs _ true (by omega) hz HT.out).mono ?_
    rintro e w1 ⟨rfl, hB⟩
    go_wp2_with fail
    refine (goodMaxR_is m _ true HM.out).mono ?_
    rintro e w2 ⟨rfl, hw2⟩
    subst hw2
    go_wp2_with fail
    refine (goodWithin_is wi _ false HW.out).mono ?_
    rintro e w3 ⟨rfl, hw3⟩
    subst hw3
    go_wp2
    refine bodyPost_ret (v := .tuple #[.int .i64 0, .bool false]) (by simp [results, Try.results28, go_sem]) rfl ?_
    rw [HR.out]
    exact ⟨rfl, hB⟩
  have HW := hid ht2
  clear ht2
  have HR : Hid (givesR zs m wi = (firstG zs m wi, true)) := by rw [Hid, givesR, HT.out, HM.out, HW.out, decide_eq_true (show zs.length ≤ 100 by omega)]; rfl
  have hwi : 1 ≤ wi ∧ wi ≤ 1000 := by have := HW.out; simpa [withinB] using this
  obtain ⟨hwi0, hwi1⟩ := hwi
  go_enter Try.func28, Try.ntmps28
  go_wp2_with fail
  refine (implTicks_is ao cap zs _ true (by omega) hz HT.out).mono ?_
  rintro e w1 ⟨rfl, hB⟩
  go_wp2_with fail
  refine (goodMaxR_is m _ true HM.out).mono ?_
  rintro e w2 ⟨rfl, hw2⟩
  subst hw2
  go_wp2_with fail
  refine (goodWithin_is wi _ true HW.out).mono ?_
  rintro e w3 ⟨rfl, hw3⟩
  subst hw3
  go_wp2
  go_loopw [30] (fun i wr => ∃ k : Nat, k ≤ zs.length ∧ i = .int .i64 k ∧ Hid (∀ j, j < k → (gOf zs wi j : Int) ≤ m) ∧ Below w.heap.size w wr) (fun i _ => zs.length - (intOf i).toNat)
  case atStart => exact ⟨0, Nat.zero_le _, rfl, fun j hj => by omega, hB⟩
  case round =>
    clear hB
    obtain ⟨k, hk, rfl, hno, hB⟩ := hrel
    by_cases hlt : k < zs.length
    · obtain ⟨bb, off, rfl, hbb, hc⟩ := ints_at (hz.below hB) hlt
      have hck := hc k hlt
      have hxt := ticksB_tick HT.out hlt
      obtain ⟨n, hn⟩ : ∃ n, n = gOf zs wi k := ⟨_, rfl⟩
      have hnl : n ≤ 100 := by have := gOf_le (wi := wi) hlt; omega
      obtain ⟨x, hx⟩ : ∃ x, x = el zs k := ⟨_, rfl⟩
      rw [← hx] at hck hxt
      have HG : Hid ((above (zs.take (k + 1)) (x - wi)).length = n) := by rw [Hid, hn, hx]; exact gOf_impl hlt hwi0
      have HN := hid hn
      obtain ⟨hx0, hx1⟩ := hxt
      have HI := hid (hz.later hB)
      have hs := hB.size
      clear hx hc hn
      have hkc : k + 1 ≤ cap := by omega
      rcases Int.lt_or_le m (n : Int) with hg | hg
      · go_wp2_with fail
        refine (ticksAbove_len (zs := zs.take (k + 1)) (by simp; omega) (by simp; omega) (HI.out.take _)).mono ?_
        rintro e w4 ⟨⟨v, rfl, hO⟩, hb4⟩
        have hB4 := hB.trans (hb4.mono hs)
        obtain ⟨go, qc, rfl, _, _⟩ := hO.fresh
        rw [HG.out]
        have HF : Hid (firstG zs m wi = k) := firstG_yes hlt (by rw [← HN.out]; exact hg) hno.out
        clear hb4 hO
        go_wp2
        refine bodyPost_ret (v := .tuple #[.int .i64 k, .bool true]) (by simp [results, Try.results28, go_sem]) rfl ?_
        rw [HR.out]
        exact ⟨by rw [HF.out], hB4⟩
      · go_wp2_with fail
        refine (ticksAbove_len (zs := zs.take (k + 1)) (by simp; omega) (by simp; omega) (HI.out.take _)).mono ?_
        rintro e w4 ⟨⟨v, rfl, hO⟩, hb4⟩
        have hB4 := hB.trans (hb4.mono hs)
        obtain ⟨go, qc, rfl, _, _⟩ := hO.fresh
        rw [HG.out]
        clear hb4 hO
        go_wp2
        go_roundw
        case rel => exact ⟨k + 1, by omega, by go_num, fun j hj => by
          rcases Nat.lt_succ_iff_lt_or_eq.1 hj with h | rfl
          · exact hno.out j h
          · rw [← HN.out]; exact hg, hB4⟩
        case measure => simp [intOf]; omega
    · obtain rfl : k = zs.length := by omega
      have HF : Hid (firstG zs m wi = -1) := firstG_no hno.out
      go_wp2
      refine bodyPost_ret (v := .tuple #[.int .i64 (-1), .bool true]) (by simp [results, Try.results28, go_sem]) rfl ?_
      rw [HR.out]
      exact ⟨by rw [HF.out], hB⟩
set_option maxRecDepth 10000 in
set_option maxHeartbeats 4000000 in
theorem specGives_any (ao : Option Addr) (cap : Nat) (zs : List Int) (m wi : Int) (w : World) (hl : zs.length ≤ 1048576) (hcap : zs.length ≤ cap) (hz : kI.In w.heap.size w ao zs) :
    Calls Try.prog 26 #[.slice ao zs.length cap, .int .i64 m, .int .i64 wi] w fun e w' => e = .returned (.tuple #[.int .i64 (givesR zs m wi).1, .bool (givesR zs m wi).2]) ∧ Below w.heap.size w w' := by
  by_cases h100 : zs.length > 100
  · have HR : Hid (givesR zs m wi = (0, false)) := by rw [Hid, givesR, decide_eq_false (by omega)]; rfl
    go_enter Try.func26, Try.ntmps26
    go_wp2
    refine bodyPost_ret (v := .tuple #[.int .i64 0, .bool false]) (by simp [results, Try.results26, go_sem]) rfl ?_
    rw [HR.out]
    exact ⟨rfl, Below.refl _ _⟩
  cases ht0 : ticksB zs
  · have HT := hid ht0
    have HR : Hid (givesR zs m wi = (0, false)) := by rw [Hid, givesR, ht0]; simp
    clear ht0
    go_enter Try.func26, Try.ntmps26
    go_wp2_with fail
    refine (specTicks_is ao cap zs _ false (by omega) hz HT.out).mono ?_
    rintro e w1 ⟨rfl, hB⟩
    go_wp2
    refine bodyPost_ret (v := .tuple #[.int .i64 0, .bool false]) (by simp [results, Try.results26, go_sem]) rfl ?_
    rw [HR.out]
    exact ⟨rfl, hB⟩
  have HT := hid ht0
  clear ht0
  cases ht1 : maxRB m
  · have HM := hid ht1
    have HR : Hid (givesR zs m wi = (0, false)) := by rw [Hid, givesR, ht1]; simp
    clear ht1
    go_enter Try.func26, Try.ntmps26
    go_wp2_with fail
    refine (specTicks_is ao cap zs _ true (by omega) hz HT.out).mono ?_
    rintro e w1 ⟨rfl, hB⟩
    go_wp2_with fail
    refine (l1In_is m 0 10 _ false HM.out).mono ?_
    rintro e w2 ⟨rfl, hw2⟩
    subst hw2
    go_wp2
    refine bodyPost_ret (v := .tuple #[.int .i64 0, .bool false]) (by simp [results, Try.results26, go_sem]) rfl ?_
    rw [HR.out]
    exact ⟨rfl, hB⟩
  have HM := hid ht1
  clear ht1
  cases ht2 : withinB wi
  · have HW := hid ht2
    have HR : Hid (givesR zs m wi = (0, false)) := by rw [Hid, givesR, ht2]; simp
    clear ht2
    go_enter Try.func26, Try.ntmps26
    go_wp2_with fail
    refine (specTicks_is ao cap zs _ true (by omega) hz HT.out).mono ?_
    rintro e w1 ⟨rfl, hB⟩
    go_wp2_with fail
    refine (l1In_is m 0 10 _ true HM.out).mono ?_
    rintro e w2 ⟨rfl, hw2⟩
    subst hw2
    go_wp2_with fail
    refine (l1In_is wi 1 1000 _ false HW.out).mono ?_
    rintro e w3 ⟨rfl, hw3⟩
    subst hw3
    go_wp2
    refine bodyPost_ret (v := .tuple #[.int .i64 0, .bool false]) (by simp [results, Try.results26, go_sem]) rfl ?_
    rw [HR.out]
    exact ⟨rfl, hB⟩
  have HW := hid ht2
  clear ht2
  have HR : Hid (givesR zs m wi = (firstG zs m wi, true)) := by rw [Hid, givesR, HT.out, HM.out, HW.out, decide_eq_true (show zs.length ≤ 100 by omega)]; rfl
  have hwi : 1 ≤ wi ∧ wi ≤ 1000 := by have := HW.out; simpa [withinB] using this
  obtain ⟨hwi0, hwi1⟩ := hwi
  go_enter Try.func26, Try.ntmps26
  go_wp2_with fail
  refine (specTicks_is ao cap zs _ true (by omega) hz HT.out).mono ?_
  rintro e w1 ⟨rfl, hB⟩
  go_wp2_with fail
  refine (l1In_is m 0 10 _ true HM.out).mono ?_
  rintro e w2 ⟨rfl, hw2⟩
  subst hw2
  go_wp2_with fail
  refine (l1In_is wi 1 1000 _ true HW.out).mono ?_
  rintro e w3 ⟨rfl, hw3⟩
  subst hw3
  go_wp2
  go_loopw [30] (fun i wr => ∃ k : Nat, k ≤ zs.length ∧ i = .int .i64 k ∧ Hid (∀ j, j < k → (gOf zs wi j : Int) ≤ m) ∧ Below w.heap.size w wr) (fun i _ => zs.length - (intOf i).toNat)
  case atStart => exact ⟨0, Nat.zero_le _, rfl, fun j hj => by omega, hB⟩
  case round =>
    clear hB
    obtain ⟨k, hk, rfl, hno, hB⟩ := hrel
    by_cases hlt : k < zs.length
    · obtain ⟨bb, off, rfl, hbb, hc⟩ := ints_at (hz.below hB) hlt
      have hck := hc k hlt
      have hxt := ticksB_tick HT.out hlt
      obtain ⟨n, hn⟩ : ∃ n, n = gOf zs wi k := ⟨_, rfl⟩
      have hnl : n ≤ 100 := by have := gOf_le (wi := wi) hlt; omega
      obtain ⟨x, hx⟩ : ∃ x, x = el zs k := ⟨_, rfl⟩
      rw [← hx] at hck hxt
      have HG : Hid ((above (zs.take k) (x - wi) ++ [x]).length = n) := by rw [Hid, hn, hx]; exact gOf_spec zs wi k
      have HN := hid hn
      obtain ⟨hx0, hx1⟩ := hxt
      have HI := hid (hz.later hB)
      have hs := hB.size
      clear hx hc hn
      have hkc : k + 1 ≤ cap := by omega
      rcases Int.lt_or_le m (n : Int) with hg | hg
      · go_wp2_with fail
        refine (l10Recent_len (zs := zs.take k) (by simp; omega) (by simp; omega) hx0 hx1 hwi0 hwi1 (HI.out.take _)).mono ?_
        rintro e w4 ⟨⟨v, rfl, hO⟩, hb4⟩
        have hB4 := hB.trans (hb4.mono hs)
        obtain ⟨go, qc, rfl, _, _⟩ := hO.fresh
        rw [HG.out]
        have HF : Hid (firstG zs m wi = k) := firstG_yes hlt (by rw [← HN.out]; exact hg) hno.out
        clear hb4 hO
        go_wp2
        refine bodyPost_ret (v := .tuple #[.int .i64 k, .bool true]) (by simp [results, Try.results26, go_sem]) rfl ?_
        rw [HR.out]
        exact ⟨by rw [HF.out], hB4⟩
      · go_wp2_with fail
        refine (l10Recent_len (zs := zs.take k) (by simp; omega) (by simp; omega) hx0 hx1 hwi0 hwi1 (HI.out.take _)).mono ?_
        rintro e w4 ⟨⟨v, rfl, hO⟩, hb4⟩
        have hB4 := hB.trans (hb4.mono hs)
        obtain ⟨go, qc, rfl, _, _⟩ := hO.fresh
        rw [HG.out]
        clear hb4 hO
        go_wp2
        go_roundw
        case rel => exact ⟨k + 1, by omega, by go_num, fun j hj => by
          rcases Nat.lt_succ_iff_lt_or_eq.1 hj with h | rfl
          · exact hno.out j h
          · rw [← HN.out]; exact hg, hB4⟩
        case measure => simp [intOf]; omega
    · obtain rfl : k = zs.length := by omega
      have HF : Hid (firstG zs m wi = -1) := firstG_no hno.out
      go_wp2
      refine bodyPost_ret (v := .tuple #[.int .i64 (-1), .bool true]) (by simp [results, Try.results26, go_sem]) rfl ?_
      rw [HR.out]
      exact ⟨by rw [HF.out], hB⟩
end Go.Proofs.Ythhamfgclhiagaa
