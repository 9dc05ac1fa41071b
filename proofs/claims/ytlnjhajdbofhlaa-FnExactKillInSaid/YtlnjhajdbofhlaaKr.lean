
/- Cases that are good: the small functions of the program. No conditions but those written. -/
import Derived.Test.YtlnjhajdbofhlaaKq
import Derived.Test.YtlnjhajdbofhlaaAo
namespace Go.Proofs.Ytlnjhajdbofhlaa
open Go.RowKit

/-- One case crosses another: on one channel, the other way. -/
def crossB (x o : Int × Bool × Int) : Bool := decide (x.1 ≠ -1) && (decide (o.1 = x.1) && (o.2.1 != x.2.1))
theorem any_take {α : Type} [Inhabited α] {l : List α} (p : α → Bool) {k : Nat} (h : k < l.length) : (l.take (k + 1)).any p = ((l.take k).any p || p (el l k)) := by rw [take_succ_el h, List.any_append]; simp
set_option maxRecDepth 10000 in
set_option maxHeartbeats 8000000 in
theorem crosses_any (x1 : Int) (x2 : Bool) (x3 : Int) (ao : Option Addr) (cap : Nat) (l : List (Int × Bool × Int)) (w : World) (hl : l.length ≤ 1048576) (hz : kQ.In w.heap.size w ao l) :
    Calls Try.prog 87 #[.agg #[.int .i64 x1, .bool x2, .int .i64 x3], .slice ao l.length cap] w fun e w' => e = .returned (.bool (l.any (crossB (x1, x2, x3)))) ∧ Below w.heap.size w w' := by
  have hB0 := below1 w (.cells #[.int .i64 x1, .bool x2, .int .i64 x3] 117)
  have X0 := hid (Bx.new (w := w) (p := w.heap.size) [.int .i64 x1, .bool x2, .int .i64 x3] 117 rfl)
  have HZ := hid hz
  clear hz
  go_enter Try.func87, Try.ntmps87
  go_wp2
  go_loopw [9] (fun i wr => ∃ k : Nat, k ≤ l.length ∧ i = .int .i64 k ∧ Below w.heap.size w wr ∧ Hid (Bx wr w.heap.size [.int .i64 x1, .bool x2, .int .i64 x3]) ∧ Hid ((l.take k).any (crossB (x1, x2, x3)) = false)) (fun i _ => l.length - (intOf i).toNat)
  case atStart => exact ⟨0, Nat.zero_le _, rfl, hB0, X0, by simp [Hid]⟩
  case round =>
    clear hB0 X0
    obtain ⟨k, hk, rfl, hB, hX, hno⟩ := hrel
    by_cases hlt : k < l.length
    · obtain ⟨b0, off, rfl, hb, hc⟩ := kQ_at HZ.out hlt
      have d1 := (hB.cell (p := ⟨b0, off + k * 3, none⟩) hb).trans (hc k hlt).1
      have d2 := (hB.cell (p := ⟨b0, off + k * 3 + 1, none⟩) hb).trans (hc k hlt).2.1
      have d3 := (hB.cell (p := ⟨b0, off + k * 3 + 2, none⟩) hb).trans (hc k hlt).2.2
      have HT := hid (any_take (crossB (x1, x2, x3)) hlt)
      have HM := hid (el_mem hlt)
      obtain ⟨⟨y1, y2, y3⟩, ey⟩ : ∃ v, v = el l k := ⟨_, rfl⟩
      rw [← ey] at d1 d2 d3 HT HM
      clear ey hc
      dsimp only at d1 d2 d3
      have hn := below1 wr (.cells #[.int .i64 y1, .bool y2, .int .i64 y3] 117)
      have hB1 := hB.trans (hn.mono hB.size)
      have X1 := hX.out.later hn
      have XH := hid X1
      have x0 := X1.c 0 rfl
      have xx1 := X1.c 1 rfl
      clear X1 hX hn
      by_cases h1 : x1 = -1
      · have h1' : (x1 != -1) = false := by simpa using h1
        have hcr : Hid (crossB (x1, x2, x3) (y1, y2, y3) = false) := by simp [Hid, crossB, h1]
        clear h1
        go_wp2
        go_roundw
        case rel => exact ⟨k + 1, by omega, by go_num, hB1, XH, by rw [Hid, HT.out, hno.out, hcr.out]; rfl⟩
        case measure => simp [intOf]; omega
      have h1' : (x1 != -1) = true := by simpa using h1
      by_cases h2 : y1 = x1
      · have h2' : (y1 == x1) = true := by simpa using h2
        rcases h3 : (y2 == x2) with _ | _
        case true =>
          have hcr : Hid (crossB (x1, x2, x3) (y1, y2, y3) = false) := by simp [Hid, crossB, bne, h3]
          clear h1 h2
          go_wp2
          go_roundw
          case rel => exact ⟨k + 1, by omega, by go_num, hB1, XH, by rw [Hid, HT.out, hno.out, hcr.out]; rfl⟩
          case measure => simp [intOf]; omega
        case false =>
          have hcr : Hid (crossB (x1, x2, x3) (y1, y2, y3) = true) := by simp [Hid, crossB, bne, h3, h1, h2]
          clear h1 h2
          go_wp2
          go_ret
          refine ⟨ret_bool ?_, hB1⟩
          exact (List.any_eq_true.2 ⟨_, HM.out, hcr.out⟩).symm
      · have h2' : (y1 == x1) = false := by simpa using h2
        have hcr : Hid (crossB (x1, x2, x3) (y1, y2, y3) = false) := by simp [Hid, crossB, h2]
        clear h1 h2
        go_wp2
        go_roundw
        case rel => exact ⟨k + 1, by omega, by go_num, hB1, XH, by rw [Hid, HT.out, hno.out, hcr.out]; rfl⟩
        case measure => simp [intOf]; omega
    · obtain rfl : k = l.length := by omega
      rw [List.take_length] at hno
      go_wp2
      go_ret
      exact ⟨ret_bool hno.out.symm, hB⟩
end Go.Proofs.Ytlnjhajdbofhlaa
