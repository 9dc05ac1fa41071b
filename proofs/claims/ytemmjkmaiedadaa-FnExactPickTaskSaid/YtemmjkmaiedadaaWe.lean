/- Contracts of the laws' comparisons where both sides hold the same. No conditions but those written. -/
import Derived.Test.YtemmjkmaiedadaaWd
import Derived.Deep.QuietTactic
import Derived.BigQuiet
import Derived.Deep.RegionWith
namespace Go.Proofs.Ytemmjkmaiedadaa
open Go.RowKit

theorem below_draws {B : Nat} {a w : World} (h : Below B a w) (n : Nat) : Below B a (w.drewN n) := h.trans ⟨rfl, rfl, rfl, Nat.le_refl _, fun _ _ => rfl⟩

set_option maxHeartbeats 1000000 in
theorem eqIntS_same (ao bo : Option Addr) (cap cap' : Nat) (zs : List Int) (w : World) (hl : zs.length ≤ 1048576) (hz : IntsIn w.heap.size w ao zs) (hz' : IntsIn w.heap.size w bo zs) :
    Calls Try.prog 44 #[.slice ao zs.length cap, .slice bo zs.length cap'] w fun e w' => e = .returned (.bool true) ∧ Below w.heap.size w w' := by
  have hne : ((zs.length : Int) != (zs.length : Int)) = false := by simp
  go_enter Try.func44, Try.ntmps44
  go_wp2
  go_loopw [5] (fun i wr => ∃ k : Nat, k ≤ zs.length ∧ i = .int .i64 k ∧ Below w.heap.size w wr) (fun i _ => zs.length - (intOf i).toNat)
  case atStart => exact ⟨0, Nat.zero_le _, rfl, Below.refl _ _⟩
  case round =>
    obtain ⟨k, hk, rfl, hnx⟩ := hrel
    by_cases hlt : k < zs.length
    · obtain ⟨b, off, rfl, hb, hc⟩ := hz.pos hlt
      obtain ⟨b', off', rfl, hb', hc'⟩ := hz'.pos hlt
      have hck := (hnx.cell (p := ⟨b, off + k, none⟩) hb).trans (hc k hlt)
      have hck' := (hnx.cell (p := ⟨b', off' + k, none⟩) hb').trans (hc' k hlt)
      clear hc hz hc' hz'
      obtain ⟨x, hx⟩ : ∃ x, x = zs[k]?.getD 0 := ⟨_, rfl⟩
      rw [← hx] at hck hck'
      clear hx
      have hxx : (x != x) = false := by simp
      go_wp2
      go_quiet (fail)
      go_wp2
      go_roundw
      case rel => exact ⟨k + 1, by omega, by go_num, below_draws hnx _⟩
      case measure => simp [intOf]; omega
    · obtain rfl : k = zs.length := by omega
      go_wp2
      go_ret
      exact ⟨rfl, hnx⟩

set_option maxHeartbeats 1000000 in
theorem eqTaskS_same (ao bo : Option Addr) (cap cap' : Nat) (ts : List (Int × Int)) (w : World) (hl : ts.length ≤ 1048576) (hz : TasksIn w.heap.size w ao ts) (hz' : TasksIn w.heap.size w bo ts) :
    Calls Try.prog 43 #[.slice ao ts.length cap, .slice bo ts.length cap'] w fun e w' => e = .returned (.bool true) ∧ Below w.heap.size w w' := by
  have hne : ((ts.length : Int) != (ts.length : Int)) = false := by simp
  go_enter Try.func43, Try.ntmps43
  go_wp2
  go_loopw [5] (fun i wr => ∃ k : Nat, k ≤ ts.length ∧ i = .int .i64 k ∧ Below w.heap.size w wr) (fun i _ => ts.length - (intOf i).toNat)
  case atStart => exact ⟨0, Nat.zero_le _, rfl, Below.refl _ _⟩
  case round =>
    obtain ⟨k, hk, rfl, hnx⟩ := hrel
    by_cases hlt : k < ts.length
    · obtain ⟨b, off, rfl, hb, hc⟩ := hz.pos hlt
      obtain ⟨b', off', rfl, hb', hc'⟩ := hz'.pos hlt
      have hck1 := (hnx.cell (p := ⟨b, off + k * 2, none⟩) hb).trans (hc k hlt).1
      have hck2 := (hnx.cell (p := ⟨b, off + k * 2 + 1, none⟩) hb).trans (hc k hlt).2
      have hck1' := (hnx.cell (p := ⟨b', off' + k * 2, none⟩) hb').trans (hc' k hlt).1
      have hck2' := (hnx.cell (p := ⟨b', off' + k * 2 + 1, none⟩) hb').trans (hc' k hlt).2
      clear hc hz hc' hz'
      obtain ⟨s, hs⟩ : ∃ s, s = (ts[k]?.getD (0, 0)).1 := ⟨_, rfl⟩
      obtain ⟨p, hp⟩ : ∃ p, p = (ts[k]?.getD (0, 0)).2 := ⟨_, rfl⟩
      rw [← hs] at hck1 hck1'
      rw [← hp] at hck2 hck2'
      clear hs hp
      go_wp2
      go_region_with (go_at_call 70; refine (eqTask_same s p _).mono ?_; rintro e w1 ⟨rfl, hb1⟩)
      all_goals go_wp2
      all_goals
        have hb2 : Below wr.drew.heap.size wr.drew w1 := by assumption
        have hnb : Below w.heap.size w w1 := hnx.drew.trans (hb2.mono hnx.size)
        go_roundw
        case rel => exact ⟨k + 1, by omega, by go_num, hnb⟩
        case measure => simp [intOf]; omega
    · obtain rfl : k = ts.length := by omega
      go_wp2
      go_ret
      exact ⟨rfl, hnx⟩
set_option maxHeartbeats 1000000 in
theorem eqBoard_same (ao : Option Addr) (cap : Nat) (ts : List (Int × Int)) (qo : Option Addr) (qcap : Nat) (q : List Int) (ao' : Option Addr) (cap' : Nat) (qo' : Option Addr) (qcap' : Nat) (w : World) (hl : ts.length ≤ 1048576) (hlq : q.length ≤ 1048576)
    (hz : TasksIn w.heap.size w ao ts) (hq : IntsIn w.heap.size w qo q) (hz' : TasksIn w.heap.size w ao' ts) (hq' : IntsIn w.heap.size w qo' q) :
    Calls Try.prog 16 #[.agg #[.slice ao ts.length cap, .slice qo q.length qcap], .agg #[.slice ao' ts.length cap', .slice qo' q.length qcap']] w fun e w' => e = .returned (.bool true) ∧ Below w.heap.size w w' := by
  go_enter Try.func16, Try.ntmps16
  go_wp2_with fail
  refine (eqTaskS_same ao ao' cap cap' ts _ hl (hz.later (below2 _ _ _)) (hz'.later (below2 _ _ _))).mono ?_
  rintro e w1 ⟨rfl, hb1⟩
  have hB1 := (below2 w (.cells #[.slice ao ts.length cap, .slice qo q.length qcap] 30) (.cells #[.slice ao' ts.length cap', .slice qo' q.length qcap'] 30)).trans (hb1.mono (by simp; omega))
  have c1 : w1.cell? ⟨w.heap.size, 1, none⟩ = some (.slice qo q.length qcap) := (hb1.cell (p := ⟨w.heap.size, 1, none⟩) (by simp; omega)).trans (by simp [go_sem])
  have c2 : w1.cell? ⟨w.heap.size + 1, 1, none⟩ = some (.slice qo' q.length qcap') := (hb1.cell (p := ⟨w.heap.size + 1, 1, none⟩) (by simp)).trans (by simp [go_sem])
  clear hb1
  go_wp2_with fail
  refine (eqIntS_same qo qo' qcap qcap' q w1 hlq (hq.later hB1) (hq'.later hB1)).mono ?_
  rintro e w2 ⟨rfl, hb2⟩
  have hB2 := hB1.trans (hb2.mono hB1.size)
  go_wp2
  go_ret
  exact ⟨rfl, hB2⟩
end Go.Proofs.Ytemmjkmaiedadaa
