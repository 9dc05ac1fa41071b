
/- Those above a limit, and where one gives up: both sides. No conditions but those written. -/
import Derived.Test.YtbpacibfboldcaaDoorTk
namespace Go.Proofs.YtbpacibfboldcaaDoor
open Go.RowKit

/-- A row of ints of its own. -/
def AnsV (w : World) (xs : List Int) (e : Ending) (w' : World) : Prop := (∃ v, e = .returned v ∧ kI.Own w.heap.size w' v xs) ∧ Below w.heap.size w w'
set_option maxRecDepth 10000 in
set_option maxHeartbeats 4000000 in
theorem ticksAbove_any (ao : Option Addr) (cap : Nat) (zs : List Int) (lim : Int) (w : World) (hl : zs.length ≤ 1048576) (hz : kI.In w.heap.size w ao zs) :
    Calls Tryd.prog 80 #[.slice ao zs.length cap, .int .i64 lim] w fun e w' => AnsV w (above zs lim) e w' := by
  go_enter Tryd.func80, Tryd.ntmps80
  go_wp2
  go_loopw [5, 10] (fun u i wr => ∃ (k : Nat) (v : Value), v = u ∧ k ≤ zs.length ∧ i = .int .i64 k ∧ Hid (kI.Own w.heap.size wr v (above (zs.take k) lim)) ∧ Below w.heap.size w wr) (fun _ i _ => zs.length - (intOf i).toNat)
  case atStart => exact ⟨0, _, rfl, Nat.zero_le _, rfl, Kind.Own.nil _ _ _, Below.refl _ _⟩
  case round =>
    obtain ⟨k, v, rfl, hk, rfl, hO, hB⟩ := hrel
    by_cases hlt : k < zs.length
    · obtain ⟨bb, off, rfl, hbb, hc⟩ := ints_at (hz.below hB) hlt
      have hck := hc k hlt
      obtain ⟨x, hx⟩ : ∃ x, x = el zs k := ⟨_, rfl⟩
      rw [← hx] at hck
      have HX : Hid (x = el zs k) := hx
      clear hx hc
      have hs := hB.size
      by_cases he : lim < x
      · have HA : Hid (kI.Own w.heap.size (wr.alloc (.cells #[.int .i64 x] 3)) v (above (zs.take k) lim)) := hO.out.below (below1 _ _)
        have HN : Hid (kI.In (wr.heap.size + 1) (wr.alloc (.cells #[.int .i64 x] 3)) (some ⟨wr.heap.size, 0, none⟩) [x]) := int_one (by omega) (by simp)
        have hll : (above (zs.take k) lim).length + 1 ≤ 4194304 := by have := above_le (zs.take k) lim; simp at this; omega
        have hBa : Below w.heap.size w (wr.alloc (.cells #[.int .i64 x] 3)) := Below.allocS hB _
        go_wp2_with (at_builtin; refine Kind.app kI_ok (wr.alloc (.cells #[.int .i64 x] 3)) rfl (.tmp 17) (.tmp 19) rfl w.heap.size v (above (zs.take k) lim) rfl HA.out (by simp; omega) (some ⟨wr.heap.size, 0, none⟩) [x] 1 1 rfl rfl (by simp) _ HN.out hll ?_; intro v' w' hO' hB' hG' hn'; have hB2 : Below w.heap.size w w' := hBa.trans (hB'.mono (by omega)); have HO' : Hid (kI.Own w.heap.size w' v' (above (zs.take (k + 1)) lim)) := (by rw [Hid, above_in hlt (by rw [← HX.out]; exact he), ← HX.out]; exact hO'); clear hO' hB' hG' hn')
        go_roundw
        case rel => exact ⟨k + 1, v', rfl, by omega, by go_num, HO', hB2⟩
        case measure => simp [intOf]; omega
      · have HO' : Hid (kI.Own w.heap.size wr v (above (zs.take (k + 1)) lim)) := by rw [Hid, above_out hlt (by rw [← HX.out]; exact he)]; exact hO.out
        go_wp2
        go_roundw
        case rel => exact ⟨k + 1, _, rfl, by omega, by go_num, HO', hB⟩
        case measure => simp [intOf]; omega
    · obtain rfl : k = zs.length := by omega
      rw [List.take_length] at hO
      go_wp2
      go_ret
      exact ⟨⟨_, rfl, hO.out⟩, hB⟩
set_option maxRecDepth 10000 in
set_option maxHeartbeats 4000000 in
theorem l10Recent_any (ao : Option Addr) (cap : Nat) (zs : List Int) (tick within : Int) (w : World) (hl : zs.length ≤ 1048576) (ht : 0 ≤ tick) (ht1 : tick ≤ 1000000) (hw : 1 ≤ within) (hw1 : within ≤ 1000) (hz : kI.In w.heap.size w ao zs) :
    Calls Tryd.prog 52 #[.slice ao zs.length cap, .int .i64 tick, .int .i64 within] w fun e w' => AnsV w (above zs (tick - within) ++ [tick]) e w' := by
  go_enter Tryd.func52, Tryd.ntmps52
  go_wp2
  go_loopw [7, 12] (fun u i wr => ∃ (k : Nat) (v : Value), v = u ∧ k ≤ zs.length ∧ i = .int .i64 k ∧ Hid (kI.Own w.heap.size wr v (above (zs.take k) (tick - within))) ∧ Below w.heap.size w wr) (fun _ i _ => zs.length - (intOf i).toNat)
  case atStart => exact ⟨0, _, rfl, Nat.zero_le _, rfl, Kind.Own.nil _ _ _, Below.refl _ _⟩
  case round =>
    obtain ⟨k, v, rfl, hk, rfl, hO, hB⟩ := hrel
    by_cases hlt : k < zs.length
    · obtain ⟨bb, off, rfl, hbb, hc⟩ := ints_at (hz.below hB) hlt
      have hck := hc k hlt
      obtain ⟨x, hx⟩ : ∃ x, x = el zs k := ⟨_, rfl⟩
      rw [← hx] at hck
      have HX : Hid (x = el zs k) := hx
      clear hx hc
      have hs := hB.size
      by_cases he : (tick - within) < x
      · have HA : Hid (kI.Own w.heap.size (wr.alloc (.cells #[.int .i64 x] 3)) v (above (zs.take k) (tick - within))) := hO.out.below (below1 _ _)
        have HN : Hid (kI.In (wr.heap.size + 1) (wr.alloc (.cells #[.int .i64 x] 3)) (some ⟨wr.heap.size, 0, none⟩) [x]) := int_one (by omega) (by simp)
        have hll : (above (zs.take k) (tick - within)).length + 1 ≤ 4194304 := by have := above_le (zs.take k) (tick - within); simp at this; omega
        have hBa : Below w.heap.size w (wr.alloc (.cells #[.int .i64 x] 3)) := Below.allocS hB _
        go_wp2_with (at_builtin; refine Kind.app kI_ok (wr.alloc (.cells #[.int .i64 x] 3)) rfl (.tmp 21) (.tmp 23) rfl w.heap.size v (above (zs.take k) (tick - within)) rfl HA.out (by simp; omega) (some ⟨wr.heap.size, 0, none⟩) [x] 1 1 rfl rfl (by simp) _ HN.out hll ?_; intro v' w' hO' hB' hG' hn'; have hB2 : Below w.heap.size w w' := hBa.trans (hB'.mono (by omega)); have HO' : Hid (kI.Own w.heap.size w' v' (above (zs.take (k + 1)) (tick - within))) := (by rw [Hid, above_in hlt (by rw [← HX.out]; exact he), ← HX.out]; exact hO'); clear hO' hB' hG' hn')
        go_roundw
        case rel => exact ⟨k + 1, v', rfl, by omega, by go_num, HO', hB2⟩
        case measure => simp [intOf]; omega
      · have HO' : Hid (kI.Own w.heap.size wr v (above (zs.take (k + 1)) (tick - within))) := by rw [Hid, above_out hlt (by rw [← HX.out]; exact he)]; exact hO.out
        go_wp2
        go_roundw
        case rel => exact ⟨k + 1, _, rfl, by omega, by go_num, HO', hB⟩
        case measure => simp [intOf]; omega
    · obtain rfl : k = zs.length := by omega
      rw [List.take_length] at hO
      have hs := hB.size
      have HA : Hid (kI.Own w.heap.size (wr.alloc (.cells #[.int .i64 tick] 3)) v (above zs (tick - within))) := hO.out.below (below1 _ _)
      have HN : Hid (kI.In (wr.heap.size + 1) (wr.alloc (.cells #[.int .i64 tick] 3)) (some ⟨wr.heap.size, 0, none⟩) [tick]) := int_one (by omega) (by simp)
      have hll : (above zs (tick - within)).length + 1 ≤ 4194304 := by have := above_le zs (tick - within); omega
      have hBa : Below w.heap.size w (wr.alloc (.cells #[.int .i64 tick] 3)) := Below.allocS hB _
      go_wp2_with (at_builtin; refine Kind.app kI_ok (wr.alloc (.cells #[.int .i64 tick] 3)) rfl (.tmp 26) (.tmp 28) rfl w.heap.size v (above zs (tick - within)) rfl HA.out (by simp; omega) (some ⟨wr.heap.size, 0, none⟩) [tick] 1 1 rfl rfl (by simp) _ HN.out hll ?_; intro v' w' hO' hB' hG' hn'; have hB2 : Below w.heap.size w w' := hBa.trans (hB'.mono (by omega)); have HO' := hid hO'; clear hO' hB' hG' hn')
      go_ret
      exact ⟨⟨_, rfl, HO'.out⟩, hB2⟩
end Go.Proofs.YtbpacibfboldcaaDoor
