
/- Growing and joining rows of letters. No conditions but those written. -/
import Derived.Test.YtnnlbnbamhkcaaaAp
namespace Go.Proofs.Ytnnlbnbamhkcaaa
open Go.RowKit

set_option maxRecDepth 10000 in
set_option maxHeartbeats 4000000 in
theorem growL_any (n : Nat) (w : World) (hl : n ≤ 4194304) :
    Calls Try.prog 33 #[.slice none 0 0, .int .i64 (n : Int)] w fun e w' => (∃ v, e = .returned v ∧ kL.Own w.heap.size w' v []) ∧ Below w.heap.size w w' := by
  by_cases h0 : n = 0
  · subst h0
    go_enter Try.func33, Try.ntmps33
    go_wp2
    go_ret
    exact ⟨⟨_, rfl, Kind.Own.nil _ _ _⟩, Below.refl _ _⟩
  · have hn : 0 < n := by omega
    have h1 : decide ((0 : Int) < (n : Int)) = true := by simp; omega
    have h2 : decide ((n : Int) < 0) = false := by simp
    clear h0
    go_enter Try.func33, Try.ntmps33
    go_wp2_with (at_builtin; refine Kind.zeros kL_ok w rfl (.tmp 20) (.tmp 21) rfl rfl n rfl hn hl ?_; intro c w' hO hc hB; have HO := hid hO; clear hO)
    go_ret
    exact ⟨⟨_, rfl, HO.out⟩, hB⟩
/-- The first m of two rows, joined. -/
def cat2 (l1 l2 : List (Int × Int × Int)) (m : Nat) : List (Int × Int × Int) := ([l1, l2].take m).flatten
theorem cat2_two (l1 l2 : List (Int × Int × Int)) : cat2 l1 l2 2 = l1 ++ l2 := by simp [cat2]
set_option maxRecDepth 10000 in
set_option maxHeartbeats 8000000 in
theorem concatL_any (p : Nat) (o1 : Option Addr) (c1 : Nat) (l1 : List (Int × Int × Int)) (o2 : Option Addr) (c2 : Nat) (l2 : List (Int × Int × Int)) (w : World) (h1 : l1.length ≤ 1048576) (h2 : l2.length ≤ 1048576) (hz1 : kL.In w.heap.size w o1 l1) (hz2 : kL.In w.heap.size w o2 l2) (hw1 : o1 = none → c1 = 0) (hw2 : o2 = none → c2 = 0) (hp : Bx w p [.slice o1 l1.length c1, .slice o2 l2.length c2]) :
    Calls Try.prog 19 #[.slice (some ⟨p, 0, none⟩) 2 2] w fun e w' => (∃ v, e = .returned v ∧ kL.Own w.heap.size w' v (l1 ++ l2)) ∧ Below w.heap.size w w' := by
  have P0 := hid hp
  clear hp
  have hpick : ∀ m, m < 2 → ∃ lo lc l, w.cell? ⟨p, m, none⟩ = some (.slice lo l.length lc) ∧ l.length ≤ 1048576 ∧ kL.In w.heap.size w lo l ∧ (lo = none → lc = 0) ∧ cat2 l1 l2 (m + 1) = cat2 l1 l2 m ++ l ∧ (cat2 l1 l2 m).length ≤ 1048576 := by
    intro m hm
    rcases (show m = 0 ∨ m = 1 from by omega) with rfl | rfl
    · exact ⟨o1, c1, l1, P0.out.c 0 rfl, h1, hz1, hw1, by simp [cat2], by simp [cat2]⟩
    · exact ⟨o2, c2, l2, P0.out.c 1 rfl, h2, hz2, hw2, by simp [cat2], by simpa [cat2] using h1⟩
  have HP := hid hpick
  have hpz := P0.out.size
  clear hpick hz1 hz2 hw1 hw2
  go_enter Try.func19, Try.ntmps19
  go_wp2
  go_loop [3, 11] (fun u i => ∃ m : Nat, m ≤ 2 ∧ i = .int .i64 m ∧ u = .int .i64 ((cat2 l1 l2 m).length : Int)) (fun _ i => 2 - (intOf i).toNat)
  case atStart => exact ⟨0, by omega, rfl, rfl⟩
  case round =>
    obtain ⟨m, hm, rfl, rfl⟩ := hrel
    by_cases hm2 : m < 2
    · obtain ⟨lo, lc, l, hcl, hll, hzl, hwl, hsu, hcm⟩ := HP.out m hm2
      have hm2' : decide ((m : Int) < 2) = true := by simp; omega
      have HSU : Hid ((cat2 l1 l2 (m + 1)).length = (cat2 l1 l2 m).length + l.length) := by rw [Hid, hsu, List.length_append]
      obtain ⟨k, hk⟩ : ∃ k, k = (cat2 l1 l2 m).length := ⟨_, rfl⟩
      rw [← hk] at HSU hcm ⊢
      have hneg : decide ((k : Int) + (l.length : Int) < 0) = false := by simp; omega
      clear hsu hk hzl hwl
      go_wp2
      go_round
      case rel => exact ⟨m + 1, by omega, by go_num, by rw [HSU.out]; go_num⟩
      case measure => simp [intOf]; omega
    · obtain rfl : m = 2 := by omega
      have hn : (cat2 l1 l2 2).length ≤ 4194304 := by rw [cat2_two, List.length_append]; omega
      obtain ⟨k, hk⟩ : ∃ k, k = (cat2 l1 l2 2).length := ⟨_, rfl⟩
      rw [← hk] at hn ⊢
      clear hk
      go_wp2_with fail
      refine (growL_any k w hn).mono ?_
      rintro e w1 ⟨⟨v, rfl, hO⟩, hb1⟩
      have O1 := hid hO
      have hs1 := hb1.size
      clear hO
      go_wp2
      go_loopw [6, 27] (fun u i wr => ∃ (m : Nat) (v : Value), v = u ∧ m ≤ 2 ∧ i = .int .i64 m ∧ Hid (kL.Own w.heap.size wr v (cat2 l1 l2 m)) ∧ Below w.heap.size w wr) (fun _ i _ => 2 - (intOf i).toNat)
      case atStart => exact ⟨0, _, rfl, by omega, rfl, O1, hb1⟩
      case round =>
        obtain ⟨m, v, rfl, hm, rfl, hO, hB⟩ := hrel
        by_cases hm2 : m < 2
        · obtain ⟨lo, lc, l, hcl, hll, hzl, hwl, hsu, hcm⟩ := HP.out m hm2
          have hm2' : decide ((m : Int) < 2) = true := by simp; omega
          have HSU := hid hsu
          have hcl' := (hB.cell (p := ⟨p, m, none⟩) hpz).trans hcl
          have HZ := hid (hzl.below hB)
          have hBs := hB.size
          clear hsu hcl hzl
          go_wp2_with (at_builtin; refine Kind.app kL_ok wr rfl (.tmp 31) (.tmp 32) rfl w.heap.size v (cat2 l1 l2 m) rfl hO.out hBs lo l l.length lc rfl rfl hwl _ HZ.out (by omega) ?_; intro v' w' hO' hB' hG' hn'; have hB2 : Below w.heap.size w w' := hB.trans hB'; have HO' : Hid (kL.Own w.heap.size w' v' (cat2 l1 l2 (m + 1))) := (by rw [Hid, HSU.out]; exact hO'); clear hO' hB' hG' hn')
          go_roundw
          case rel => exact ⟨m + 1, v', rfl, by omega, by go_num, HO', hB2⟩
          case measure => simp [intOf]; omega
        · obtain rfl : m = 2 := by omega
          rw [cat2_two] at hO
          go_wp2
          go_ret
          exact ⟨⟨_, rfl, hO.out⟩, hB⟩
end Go.Proofs.Ytnnlbnbamhkcaaa
