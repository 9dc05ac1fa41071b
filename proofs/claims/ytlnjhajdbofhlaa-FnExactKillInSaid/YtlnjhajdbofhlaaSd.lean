
/- ReadyCases: both sides. No conditions but those written. -/
import Derived.Test.YtlnjhajdbofhlaaSb
import Derived.Test.YtlnjhajdbofhlaaSc
import Derived.Test.YtlnjhajdbofhlaaKu
namespace Go.Proofs.Ytlnjhajdbofhlaa
open Go.RowKit

set_option maxRecDepth 10000 in
set_option maxHeartbeats 4000000 in
theorem implReady_any (ao : Option Addr) (cap : Nat) (ts : List LChan) (qo : Option Addr) (qc : Nat) (l : List (Int × Bool × Int)) (w : World) (hl : ts.length ≤ 1048576) (ht : totChan ts ≤ 1048576) (hq : l.length ≤ 1048576) (hqc : l.length ≤ qc) (hz : DIn dChan w.heap.size w ao ts) (hzq : kQ.In w.heap.size w qo l) :
    Calls Try.prog 37 #[.agg #[.slice ao ts.length cap], .slice qo l.length qc] w fun e w' => AnsQ w (readyR (ts.map valChan) l) e w' := by
  have HZ := hid hz
  have HQ := hid hzq
  have HTT := hid ht
  clear hz hzq ht
  have hB0 := below1 w (.cells #[.slice ao ts.length cap] 56)
  have X0 := hid (Bx.new (w := w) (p := w.heap.size) [.slice ao ts.length cap] 56 rfl)
  rcases hg : goodQB (ts.map valChan) l with _ | _
  · have HR := hid (readyR_bad hg)
    have hG := implGoodQ_is ao cap ts qo qc l (w.alloc (.cells #[.slice ao ts.length cap] 56)) false hl HTT.out hq hqc (HZ.out.later dChan_ok hB0) (HQ.out.later hB0) hg
    clear hg
    go_enter Try.func37, Try.ntmps37
    go_wp2_with fail
    refine hG.mono ?_
    rintro e w1 ⟨rfl, hb1⟩
    have hB1 := hB0.trans (hb1.mono hB0.size)
    clear hb1 hG hB0
    go_wp2
    refine bodyPost_ret (v := .tuple #[.slice none 0 0, .bool false]) (by simp [results, Try.results37, go_sem]) rfl ?_
    rw [HR.out]
    exact ⟨⟨none, 0, rfl, .inl rfl⟩, hB1⟩
  · have HR := hid (readyR_ok hg)
    have HG := hid hg
    have hG := implGoodQ_is ao cap ts qo qc l (w.alloc (.cells #[.slice ao ts.length cap] 56)) true hl HTT.out hq hqc (HZ.out.later dChan_ok hB0) (HQ.out.later hB0) hg
    clear hg
    go_enter Try.func37, Try.ntmps37
    go_wp2_with fail
    refine hG.mono ?_
    rintro e w1 ⟨rfl, hb1⟩
    have hB1 := hB0.trans (hb1.mono hB0.size)
    have X1 := hid (X0.out.later hb1)
    clear hb1 hG hB0 X0
    have x0 := X1.out.c 0 rfl
    have hR := readyIn_any ao cap ts qo qc l w1 hl HTT.out hq (HZ.out.later dChan_ok hB1) (HQ.out.later hB1) HG.out
    go_wp2_with fail
    refine hR.mono ?_
    rintro e w2 ⟨⟨go, gc, rfl, _, hF⟩, hb2⟩
    have hB2 := hB1.trans (hb2.mono hB1.size)
    have F2 : Hid (kI.Fresh w.heap.size w2.heap.size w2 go gc (readyT (ts.map valChan) l l.length)) := hF.wide hB1.size (Nat.le_refl _)
    clear hb2 hF hR x0
    go_wp2
    refine bodyPost_ret (v := .tuple #[.slice go (readyT (ts.map valChan) l l.length).length gc, .bool true]) (by simp [results, Try.results37, go_sem]) rfl ?_
    rw [HR.out]
    exact ⟨⟨_, _, rfl, F2.out⟩, hB2⟩
set_option maxRecDepth 10000 in
set_option maxHeartbeats 4000000 in
theorem specReady_any (ao : Option Addr) (cap : Nat) (ts : List LChan) (qo : Option Addr) (qc : Nat) (l : List (Int × Bool × Int)) (w : World) (hl : ts.length ≤ 1048576) (ht : totChan ts ≤ 1048576) (hq : l.length ≤ 1048576) (hqc : l.length ≤ qc) (hz : DIn dChan w.heap.size w ao ts) (hzq : kQ.In w.heap.size w qo l) :
    Calls Try.prog 36 #[.agg #[.slice ao ts.length cap], .slice qo l.length qc] w fun e w' => AnsQ w (readyR (ts.map valChan) l) e w' := by
  have HZ := hid hz
  have HQ := hid hzq
  have HTT := hid ht
  clear hz hzq ht
  have hB0 := below1 w (.cells #[.slice ao ts.length cap] 56)
  have X0 := hid (Bx.new (w := w) (p := w.heap.size) [.slice ao ts.length cap] 56 rfl)
  rcases hg : goodQB (ts.map valChan) l with _ | _
  · have HR := hid (readyR_bad hg)
    have hG := specGoodQ_is ao cap ts qo qc l (w.alloc (.cells #[.slice ao ts.length cap] 56)) false hl HTT.out hq hqc (HZ.out.later dChan_ok hB0) (HQ.out.later hB0) hg
    clear hg
    go_enter Try.func36, Try.ntmps36
    go_wp2_with fail
    refine hG.mono ?_
    rintro e w1 ⟨rfl, hb1⟩
    have hB1 := hB0.trans (hb1.mono hB0.size)
    clear hb1 hG hB0
    go_wp2
    refine bodyPost_ret (v := .tuple #[.slice none 0 0, .bool false]) (by simp [results, Try.results36, go_sem]) rfl ?_
    rw [HR.out]
    exact ⟨⟨none, 0, rfl, .inl rfl⟩, hB1⟩
  · have HR := hid (readyR_ok hg)
    have HG := hid hg
    have hG := specGoodQ_is ao cap ts qo qc l (w.alloc (.cells #[.slice ao ts.length cap] 56)) true hl HTT.out hq hqc (HZ.out.later dChan_ok hB0) (HQ.out.later hB0) hg
    clear hg
    go_enter Try.func36, Try.ntmps36
    go_wp2_with fail
    refine hG.mono ?_
    rintro e w1 ⟨rfl, hb1⟩
    have hB1 := hB0.trans (hb1.mono hB0.size)
    have X1 := hid (X0.out.later hb1)
    clear hb1 hG hB0 X0
    have x0 := X1.out.c 0 rfl
    have hR := l4Ready_any ao cap ts qo qc l w1 hl HTT.out hq (HZ.out.later dChan_ok hB1) (HQ.out.later hB1) HG.out
    go_wp2_with fail
    refine hR.mono ?_
    rintro e w2 ⟨⟨go, gc, rfl, _, hF⟩, hb2⟩
    have hB2 := hB1.trans (hb2.mono hB1.size)
    have F2 : Hid (kI.Fresh w.heap.size w2.heap.size w2 go gc (readyT (ts.map valChan) l l.length)) := hF.wide hB1.size (Nat.le_refl _)
    clear hb2 hF hR x0
    go_wp2
    refine bodyPost_ret (v := .tuple #[.slice go (readyT (ts.map valChan) l l.length).length gc, .bool true]) (by simp [results, Try.results36, go_sem]) rfl ?_
    rw [HR.out]
    exact ⟨⟨_, _, rfl, F2.out⟩, hB2⟩
end Go.Proofs.Ytlnjhajdbofhlaa
