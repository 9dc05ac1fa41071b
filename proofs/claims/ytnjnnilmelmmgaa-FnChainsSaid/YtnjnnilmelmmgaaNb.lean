
/- Rows of rows of ints: sizes, copies, comparisons, marks. No conditions but those written. -/
import Derived.Test.YtnjnnilmelmmgaaNa
namespace Go.Proofs.Ytnjnnilmelmmgaa
open Go.RowKit

set_option maxHeartbeats 1000000 in
theorem szIntSS_any (ao : Option Addr) (cap : Nat) (hs : List (Option Addr × Nat × Nat)) (ls : List (List Int)) (L : Int) (w : World) (h0 : 0 ≤ L) (h1 : L ≤ 1048576) (hl : ls.length ≤ 9223372036854775807) (hle : ∀ l ∈ ls, l.length ≤ 9223372036854775807) (hz : InRR w.heap.size w ao hs ls) :
    Calls Try.prog 32 #[.slice ao ls.length cap, .int .i64 L] w fun e w' => (∃ r : Int, e = .returned (.int .i64 r) ∧ r ≤ 1048576 ∧ ((r < 0) ∨ (r = L - ls.length - tot ls ∧ 0 ≤ r))) ∧ w' = w := by
  by_cases hbig : L - (ls.length : Int) < 0
  · go_enter Try.func32, Try.ntmps32
    go_wp2
    go_ret
    exact ⟨⟨_, rfl, by omega, by omega⟩, rfl⟩
  · have hb' : decide (L - (ls.length : Int) < 0) = false := by simpa using hbig
    go_enter Try.func32, Try.ntmps32
    go_wp2
    go_loop [1, 5] (fun v i => ∃ (k : Nat), k ≤ ls.length ∧ i = .int .i64 k ∧ v = .int .i64 (L - ls.length - tot (ls.take k)) ∧ (0 : Int) ≤ L - ls.length - tot (ls.take k)) (fun _ i => ls.length - (intOf i).toNat)
    case atStart => exact ⟨0, Nat.zero_le _, rfl, by simp [tot], by simp [tot]; omega⟩
    case round =>
      obtain ⟨k, hk, rfl, rfl, hge⟩ := hrel
      by_cases hlt : k < ls.length
      · obtain ⟨b, off, o, c, rfl, hb, hc, _, _⟩ := hz.at hlt
        have hlk := hle _ (el_mem hlt)
        have ht := tot_take hlt
        generalize hx : el ls k = x at hc hlk ht
        clear hx
        go_wp2_with fail
        refine (szIntS_any o x.length c (L - ls.length - tot (ls.take k)) w hge (by omega) hlk).mono ?_
        rintro e w1 ⟨⟨r, rfl, hr1, hr⟩, hw1⟩
        rw [hw1]; clear hw1 w1
        rcases hr with hr | ⟨rfl, hr⟩
        · have hr' : decide (r < 0) = true := by simpa using hr
          go_wp2
          go_ret
          exact ⟨⟨_, rfl, by omega, by omega⟩, rfl⟩
        · have hr' : decide (L - (ls.length : Int) - (tot (ls.take k) : Int) - (x.length : Int) < 0) = false := by simpa using hr
          go_wp2
          go_round
          case rel => exact ⟨k + 1, by omega, by go_num, by rw [ht]; push_cast; congr 1; omega, by rw [ht]; push_cast; omega⟩
          case measure => simp [intOf]; omega
      · obtain rfl : k = ls.length := by omega
        rw [List.take_length] at hge ⊢
        go_wp2
        go_ret
        exact ⟨⟨_, rfl, by omega, by omega⟩, rfl⟩
set_option maxHeartbeats 2000000 in
theorem eqIntSS_same (ao bo : Option Addr) (cap cap' : Nat) (hs hs' : List (Option Addr × Nat × Nat)) (ls : List (List Int)) (w : World) (hl : ls.length ≤ 1048576) (hle : tot ls ≤ 1048576) (hz : InRR w.heap.size w ao hs ls) (hz' : InRR w.heap.size w bo hs' ls) :
    Calls Try.prog 29 #[.slice ao ls.length cap, .slice bo ls.length cap'] w fun e w' => e = .returned (.bool true) ∧ Below w.heap.size w w' := by
  have hne : ((ls.length : Int) != (ls.length : Int)) = false := by simp
  go_enter Try.func29, Try.ntmps29
  go_wp2
  go_loopw [5] (fun i wr => ∃ k : Nat, k ≤ ls.length ∧ i = .int .i64 k ∧ Below w.heap.size w wr) (fun i _ => ls.length - (intOf i).toNat)
  case atStart => exact ⟨0, Nat.zero_le _, rfl, Below.refl _ _⟩
  case round =>
    obtain ⟨k, hk, rfl, hnx⟩ := hrel
    by_cases hlt : k < ls.length
    · obtain ⟨b, off, o, c, rfl, hb, hc, _, hI⟩ := hz.at hlt
      obtain ⟨b', off', o', c', rfl, hb', hc', _, hI'⟩ := hz'.at hlt
      have d1 := (hnx.cell (p := ⟨b, off + k, none⟩) hb).trans hc
      have d2 := (hnx.cell (p := ⟨b', off' + k, none⟩) hb').trans hc'
      have hxl : (el ls k).length ≤ 1048576 := by have := tot_el hlt; omega
      generalize hx : el ls k = x at d1 d2 hI hI' hxl
      have HI := hid (hI.later hnx)
      have HI' := hid (hI'.later hnx)
      clear hx hc hc' hI hI'
      go_wp2
      go_region_with (go_at_call 15; refine (eqIntS_same o o' c c' x _ hxl (by exact HI.out) (by exact HI'.out)).mono ?_; rintro e w1 ⟨rfl, hb1⟩)
      all_goals go_wp2
      all_goals
        have hb2 : Below wr.drew.heap.size wr.drew w1 := by assumption
        have hnb : Below w.heap.size w w1 := hnx.drew.trans (hb2.mono hnx.size)
        go_roundw
        case rel => exact ⟨k + 1, by omega, by go_num, hnb⟩
        case measure => simp [intOf]; omega
    · obtain rfl : k = ls.length := by omega
      go_wp2
      go_ret
      exact ⟨rfl, hnx⟩
/-- The marks of rows of rows. -/
def markR (k : Int) (ls : List (List Int)) : List (List Int) := (List.range ls.length).map fun j : Nat => markI (k + (tot (ls.take j) : Int)) (el ls j).length
theorem markR_len (k : Int) (ls : List (List Int)) : (markR k ls).length = ls.length := by simp [markR]
theorem markR_at (k : Int) {ls : List (List Int)} {j : Nat} (h : j < ls.length) : el (markR k ls) j = markI (k + (tot (ls.take j) : Int)) (el ls j).length := by simp [markR, el, h]
/-- The first m are marked, the others stand. -/
def partR (k : Int) (ls : List (List Int)) (m : Nat) : List (List Int) := (markR k ls).take m ++ ls.drop m
theorem partR_len (k : Int) (ls : List (List Int)) {m : Nat} (h : m ≤ ls.length) : (partR k ls m).length = ls.length := by simp [partR, markR_len]; omega
theorem partR_zero (k : Int) (ls : List (List Int)) : partR k ls 0 = ls := by simp [partR]
theorem partR_all (k : Int) (ls : List (List Int)) : partR k ls ls.length = markR k ls := by
  simp only [partR, List.drop_length, List.append_nil]
  rw [← markR_len k ls, List.take_length]
theorem partR_at (k : Int) {ls : List (List Int)} {m : Nat} (h : m < ls.length) : el (partR k ls m) m = el ls m := by
  have : (List.take m (markR k ls)).length = m := by simp [markR_len]; omega
  simp only [el, partR]
  rw [List.getElem?_append_right (by omega), this]
  simp
theorem partR_set (k : Int) {ls : List (List Int)} {m : Nat} (h : m < ls.length) : (partR k ls m).set m (markI (k + (tot (ls.take m) : Int)) (el ls m).length) = partR k ls (m + 1) := by
  have hl : (List.take m (markR k ls)).length = m := by simp [markR_len]; omega
  simp only [partR]
  rw [List.set_append_right _ _ (by omega), hl, Nat.sub_self]
  have hd : ls.drop m = el ls m :: ls.drop (m + 1) := by rw [el_at h]; exact List.drop_eq_getElem_cons h
  rw [hd, List.set_cons_zero, take_succ_el (by rw [markR_len]; exact h), markR_at k h]
  simp
theorem partR_elen (k : Int) {ls : List (List Int)} {m j : Nat} (_h : m ≤ ls.length) (hj : j < ls.length) : (el (partR k ls m) j).length = (el ls j).length := by
  have hl : (List.take m (markR k ls)).length = m := by simp [markR_len]; omega
  simp only [partR]
  rcases Nat.lt_or_ge j m with hjm | hjm
  · rw [el_app_left (by omega), el_take hjm, markR_at k hj, markI_len]
  · have e : j = (List.take m (markR k ls)).length + (j - m) := by omega
    rw [e, el_app_right, el_drop]
    congr 2
    omega
theorem eff_between {lo hi : Nat} {W W' : World} {ao : Option Addr} {c : Nat} {xs : List Int} (h : kI.Fresh lo hi W ao c xs) (hO : OnlyAt (eff ao xs.length) W W') : Between lo hi W W' := h.between hO
set_option maxHeartbeats 2000000 in
theorem markIntSS_any (lo hi : Nat) (ao : Option Addr) (cap : Nat) (hs : List (Option Addr × Nat × Nat)) (ls : List (List Int)) (k0 : Int) (w : World) (hl : ls.length ≤ 1048576) (hle : tot ls ≤ 1048576) (hk0 : 0 ≤ k0) (hk1 : k0 ≤ 8388608) (hF : FrRR lo hi w ao cap hs ls) :
    Calls Try.prog 30 #[.slice ao ls.length cap, .int .i64 k0] w fun e w' => e = .returned (.int .i64 (k0 + tot ls)) ∧ FrRR lo hi w' ao cap hs (markR k0 ls) ∧ Between lo hi w w' := by
  have HF := hid hF
  clear hF
  go_enter Try.func30, Try.ntmps30
  go_wp2
  go_loopw [1, 5] (fun v i wr => ∃ (k : Nat), k ≤ ls.length ∧ i = .int .i64 k ∧ v = .int .i64 (k0 + tot (ls.take k)) ∧ Hid (FrRR lo hi wr ao cap hs (partR k0 ls k)) ∧ Hid (Between lo hi w wr)) (fun _ i _ => ls.length - (intOf i).toNat)
  case atStart => exact ⟨0, Nat.zero_le _, rfl, by simp [tot], by rw [partR_zero]; exact HF, Between.refl _ _ _⟩
  case round =>
    obtain ⟨k, hk, rfl, rfl, hR, hB⟩ := hrel
    by_cases hlt : k < ls.length
    · obtain ⟨b, off, o, c, rfl, hb, hc, hek, _⟩ := hR.out.in.at (k := k) (by rw [partR_len k0 ls hk]; exact hlt)
      have hfk := (hR.out.2.2.1 k (by rw [partR_len k0 ls hk]; exact hlt)).2
      rw [partR_at k0 hlt] at hc hek hfk
      rw [hek] at hfk
      dsimp only at hfk
      have ht := tot_take hlt
      have htl := tot_el hlt
      have HS := hid (partR_set k0 hlt)
      have HE := hid hek
      have HP := hid (partR_at k0 hlt)
      generalize hx : el ls k = x at hc hfk ht htl HS HE HP
      have HK := hid hfk
      clear hx hek hfk
      go_wp2_with fail
      refine (markIntS_any lo hi o c x (k0 + tot (ls.take k)) wr (by omega) (by omega) (by omega) HK.out).mono ?_
      rintro e w1 ⟨rfl, hF1, hO1⟩
      have hB1 := hid (hB.out.trans (HK.out.between hO1))
      have hR1 : Hid (FrRR lo hi w1 (some ⟨b, off, none⟩) cap hs (partR k0 ls (k + 1))) := by
        rw [Hid, ← HS.out]
        refine hR.out.set (by rw [partR_len k0 ls hk]; exact hlt) (by rw [markI_len, HP.out]) ?_ ?_
        · rw [HE.out]; exact hF1
        · rw [HE.out, HP.out]; exact hO1
      clear hF1 hO1 hR hB HK HS HE HP
      go_wp2
      go_roundw
      case rel => exact ⟨k + 1, by omega, by go_num, by rw [ht]; push_cast; congr 1; omega, hR1, hB1⟩
      case measure => simp [intOf]; omega
    · obtain rfl : k = ls.length := by omega
      rw [partR_all] at hR
      rw [List.take_length]
      go_wp2
      go_ret
      exact ⟨rfl, hR.out, hB.out⟩
set_option maxHeartbeats 1000000 in
theorem heldIntSS_any (ao : Option Addr) (cap : Nat) (hs : List (Option Addr × Nat × Nat)) (ls : List (List Int)) (k0 : Int) (w : World) (hl : ls.length ≤ 1048576) (hle : tot ls ≤ 1048576) (hk0 : 0 ≤ k0) (hk1 : k0 ≤ 8388608) (hF : InRR w.heap.size w ao hs (markR k0 ls)) :
    Calls Try.prog 31 #[.slice ao ls.length cap, .int .i64 k0] w fun e w' => e = .returned (.int .i64 (k0 + tot ls)) ∧ w' = w := by
  go_enter Try.func31, Try.ntmps31
  go_wp2
  go_loop [1, 5] (fun v i => ∃ k : Nat, k ≤ ls.length ∧ i = .int .i64 k ∧ v = .int .i64 (k0 + tot (ls.take k))) (fun _ i => ls.length - (intOf i).toNat)
  case atStart => exact ⟨0, Nat.zero_le _, rfl, by simp [tot]⟩
  case round =>
    obtain ⟨k, hk, rfl, rfl⟩ := hrel
    by_cases hlt : k < ls.length
    · obtain ⟨b, off, o, c, rfl, hb, hc, _, hI⟩ := hF.at (k := k) (by rw [markR_len]; exact hlt)
      rw [markR_at k0 hlt] at hc hI
      rw [markI_len] at hc
      have ht := tot_take hlt
      have htl := tot_el hlt
      generalize hx : (el ls k).length = x at hc hI ht htl
      have HI := hid hI
      clear hx hI
      have hn0 : decide (k0 + (tot (ls.take k) : Int) + (x : Int) < 0) = false := by simp; omega
      go_wp2_with fail
      refine (heldIntS_any o c x (k0 + tot (ls.take k)) w (by omega) (by omega) (by omega) HI.out).mono ?_
      rintro e w1 ⟨rfl, hw1⟩
      rw [hw1]; clear hw1 w1
      go_wp2
      go_round
      case rel => exact ⟨k + 1, by omega, by go_num, by rw [ht]; push_cast; congr 1; omega⟩
      case measure => simp [intOf]; omega
    · obtain rfl : k = ls.length := by omega
      rw [List.take_length]
      go_wp2
      go_ret
      exact ⟨rfl, rfl⟩
end Go.Proofs.Ytnjnnilmelmmgaa
