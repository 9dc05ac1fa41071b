
/- The walks of the laws on GoodClock and NextFire: they return true. No conditions but those written. -/
import Derived.Test.YtpbgkkemaioidaaOCb
import Derived.Test.YtpbgkkemaioidaaOCc
import Derived.Test.YtpbgkkemaioidaaOCd
namespace Go.Proofs.Ytpbgkkemaioidaa.Old
open Go.RowKit

/-- The block p holds the three values. -/
def Box3 (W : World) (p : Nat) (u0 u1 u2 : Value) : Prop := p < W.heap.size ∧ W.cell? ⟨p, 0, none⟩ = some u0 ∧ W.cell? ⟨p, 1, none⟩ = some u1 ∧ W.cell? ⟨p, 2, none⟩ = some u2
theorem Box3.new (w : World) (u0 u1 u2 : Value) (t : TypeId) : Box3 (w.alloc (.cells #[u0, u1, u2] t)) w.heap.size u0 u1 u2 := ⟨by simp, by simp, by simp, by simp⟩
theorem Box3.later {W W' : World} {p : Nat} {u0 u1 u2 : Value} (h : Box3 W p u0 u1 u2) (hb : Below W.heap.size W W') : Box3 W' p u0 u1 u2 :=
  ⟨Nat.lt_of_lt_of_le h.1 hb.size, (hb.cell (p := ⟨p, 0, none⟩) h.1).trans h.2.1, (hb.cell (p := ⟨p, 1, none⟩) h.1).trans h.2.2.1, (hb.cell (p := ⟨p, 2, none⟩) h.1).trans h.2.2.2⟩

/-- NextFire. -/
def nextI (now sq : Int) (ts : List T3) : Int := if goodB now sq ts = true then (t3 ts 0).2.1 else 0
def nextB (now sq : Int) (ts : List T3) : Bool := goodB now sq ts && decide (ts.length ≠ 0)
theorem t3_nil : t3 [] 0 = (0, 0, 0) := rfl

set_option maxHeartbeats 1000000 in
theorem implNext_any (now sq : Int) (ao : Option Addr) (cap : Nat) (ts : List T3) (w : World) (hl : ts.length ≤ 1048576) (hcap : ts.length ≤ cap) (hz : TimersIn w.heap.size w ao ts) :
    Calls Try.prog 9 #[.agg #[.int .i64 now, .int .i64 sq, .slice ao ts.length cap]] w fun e w' => e = .returned (.tuple #[.int .i64 (nextI now sq ts), .bool (nextB now sq ts)]) ∧ Below w.heap.size w w' := by
  cases hg : goodB now sq ts
  · have HG : Hid (goodB now sq ts = false) := hg
    have HV : Hid (nextI now sq ts = 0 ∧ nextB now sq ts = false) := by simp [Hid, nextI, nextB, hg]
    clear hg
    go_enter Try.func9, Try.ntmps9
    go_wp2_with fail
    refine (implGood_any now sq ao cap ts _ hl hcap (hz.later (below1 _ _))).mono ?_
    rintro e w1 ⟨rfl, hb1⟩
    rw [HG.out]
    have hB1 := (below1 w (.cells #[.int .i64 now, .int .i64 sq, .slice ao ts.length cap] 25)).trans (hb1.mono (by simp))
    clear hb1
    go_wp2
    refine bodyPost_ret (v := .tuple #[.int .i64 0, .bool false]) (by simp [results, Try.results9, go_sem]) rfl ⟨by rw [HV.out.1, HV.out.2], hB1⟩
  · have HG : Hid (goodB now sq ts = true) := hg
    rcases Nat.eq_zero_or_pos ts.length with h0 | h0
    · obtain rfl : ts = [] := List.length_eq_zero_iff.1 h0
      have HV : Hid (nextI now sq [] = 0 ∧ nextB now sq [] = false) := by simp [Hid, nextI, nextB, t3_nil]
      clear hg h0
      go_enter Try.func9, Try.ntmps9
      go_wp2_with fail
      refine (implGood_any now sq ao cap [] _ hl hcap (hz.later (below1 _ _))).mono ?_
      rintro e w1 ⟨rfl, hb1⟩
      rw [HG.out]
      have X1 := (Box3.new w (.int .i64 now) (.int .i64 sq) (.slice ao 0 cap) 25).later hb1
      have hB1 := (below1 w (.cells #[.int .i64 now, .int .i64 sq, .slice ao 0 cap] 25)).trans (hb1.mono (by simp))
      obtain ⟨x1, x10, x11, x12⟩ := X1
      clear hb1
      go_wp2
      refine bodyPost_ret (v := .tuple #[.int .i64 0, .bool false]) (by simp [results, Try.results9, go_sem]) rfl ⟨by rw [HV.out.1, HV.out.2], hB1⟩
    · have HV : Hid (nextI now sq ts = (t3 ts 0).2.1 ∧ nextB now sq ts = true) := by simp [Hid, nextI, nextB, hg]; intro e; simp [e] at h0
      obtain ⟨b, off, rfl, hb, hc⟩ := hz.pos h0
      have c2 := (hc 0 h0).2.1
      rw [Nat.zero_mul, Nat.add_zero] at c2
      have hne : ((ts.length : Int) == 0) = false := by simp; intro e; simp [e] at h0
      clear hg hc
      go_enter Try.func9, Try.ntmps9
      go_wp2_with fail
      refine (implGood_any now sq _ cap ts _ hl hcap (hz.later (below1 _ _))).mono ?_
      rintro e w1 ⟨rfl, hb1⟩
      rw [HG.out]
      have X1 := (Box3.new w (.int .i64 now) (.int .i64 sq) (.slice (some ⟨b, off, none⟩) ts.length cap) 25).later hb1
      have hB1 := (below1 w (.cells #[.int .i64 now, .int .i64 sq, .slice (some ⟨b, off, none⟩) ts.length cap] 25)).trans (hb1.mono (by simp))
      have d2 := (hB1.cell (p := ⟨b, off + 1, none⟩) hb).trans c2
      obtain ⟨x1, x10, x11, x12⟩ := X1
      have h0i : (0 : Int) < (ts.length : Int) := by omega
      clear hb1
      go_wp2
      refine bodyPost_ret (v := .tuple #[.int .i64 (t3 ts 0).2.1, .bool true]) (by simp [results, Try.results9, go_sem]) rfl ⟨by rw [HV.out.1, HV.out.2], hB1⟩

end Go.Proofs.Ytpbgkkemaioidaa.Old
