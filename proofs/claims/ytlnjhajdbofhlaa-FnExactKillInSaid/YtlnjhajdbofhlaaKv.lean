
/- The law's parts over a hub and cases. No conditions but those written. -/
import Derived.Test.YtlnjhajdbofhlaaKu
import Derived.Test.YtlnjhajdbofhlaaLgh
namespace Go.Proofs.Ytlnjhajdbofhlaa
open Go.RowKit

set_option maxHeartbeats 2000000 in
theorem szHub_le (ao : Option Addr) (cap : Nat) (ts : List LChan) (w : World) (hl : ts.length ≤ 9223372036854775807) (hle : ∀ a ∈ ts, (a.2.2.1).2.2.length ≤ 9223372036854775807 ∧ (a.2.2.2.1).2.2.length ≤ 9223372036854775807 ∧ (a.2.2.2.2).2.2.length ≤ 9223372036854775807) (hz : DIn dChan w.heap.size w ao ts) :
    Calls Try.prog 26 #[.agg #[.slice ao ts.length cap], .int .i64 1048576] w fun e w' => (∃ z : Int, e = .returned (.int .i64 z) ∧ z ≤ 1048576 ∧ ((z < 0) ∨ (0 ≤ z ∧ ts.length ≤ 1048576 ∧ totChan ts ≤ 1048576))) ∧ Below w.heap.size w w' := by
  have hB0 := below1 w (.cells #[.slice ao ts.length cap] 51)
  have HZ := hid (hz.later dChan_ok hB0)
  clear hz
  go_enter Try.func26, Try.ntmps26
  go_wp2_with fail
  refine (szChanS_any ao cap ts 1048576 _ (by omega) (by omega) hl hle HZ.out.1).mono ?_
  rintro e w1 ⟨⟨z, rfl, hr, hs⟩, hb1⟩
  have hB1 := hB0.trans (hb1.mono hB0.size)
  clear hb1
  by_cases h0 : z < 0
  · go_wp2
    go_ret
    exact ⟨⟨_, rfl, by omega, by omega⟩, hB1⟩
  · go_wp2
    go_ret
    exact ⟨⟨_, rfl, by omega, by omega⟩, hB1⟩
end Go.Proofs.Ytlnjhajdbofhlaa
