/- MaySend and MayReceive; the walks of the laws on GoodChan, MaySend and MayReceive: they return true. No conditions but those written. -/
import Derived.Test.YtblnlhdcdeiedaaBd
namespace Go.Proofs.Ytblnlhdcdeiedaa
open Go.RowKit

def maySB (kap : Int) (cl : Bool) (b : List Int) (r : List T3) : Bool := cl || (decide (r.length ≠ 0) || decide ((b.length : Int) < kap))
def mayRB (cl : Bool) (b : List Int) (s : List T3) : Bool := cl || (decide (b.length ≠ 0) || decide (s.length ≠ 0))

set_option maxHeartbeats 2000000 in
theorem l3MaySend_is (kap : Int) (cl : Bool) (bo : Option Addr) (bc : Nat) (b : List Int) (so : Option Addr) (sc : Nat) (s : List T3) (ro : Option Addr) (rc : Nat) (r : List T3) (w : World) (x : Bool) (hx : maySB kap cl b r = x) :
    Calls Try.prog 68 #[.agg #[.int .i64 kap, .bool cl, .slice bo b.length bc, .slice so s.length sc, .slice ro r.length rc]] w fun e w' => e = .returned (.bool x) ∧ Below w.heap.size w w' := by
  have hB0 := below1 w (.cells #[.int .i64 kap, .bool cl, .slice bo b.length bc, .slice so s.length sc, .slice ro r.length rc] 26)
  cases cl
  · by_cases hr : r.length = 0
    · obtain ⟨zr, pr, qr⟩ := len0 hr
      by_cases hk : (b.length : Int) < kap
      · have HV : Hid (x = true) := by rw [Hid, ← hx, maySB, decide_eq_true (p := (b.length : Int) < kap) hk]; simp
        clear hr hx
        go_enter Try.func68, Try.ntmps68
        go_wp2
        go_ret
        exact ⟨ret_bool HV.out.symm, hB0⟩
      · have hk' : decide ((b.length : Int) < kap) = false := by simpa using hk
        have HV : Hid (x = false) := by rw [Hid, ← hx, maySB, hk', decide_eq_false (p := r.length ≠ 0) (by omega)]; rfl
        clear hr hx hk
        go_enter Try.func68, Try.ntmps68
        go_wp2
        go_ret
        exact ⟨ret_bool HV.out.symm, hB0⟩
    · obtain ⟨zr, pr, qr⟩ := len1 hr
      have HV : Hid (x = true) := by rw [Hid, ← hx, maySB, decide_eq_true (p := r.length ≠ 0) hr]; rfl
      clear hr hx
      go_enter Try.func68, Try.ntmps68
      go_wp2
      go_ret
      exact ⟨ret_bool HV.out.symm, hB0⟩
  · have HV : Hid (x = true) := by rw [Hid, ← hx, maySB]; rfl
    clear hx
    go_enter Try.func68, Try.ntmps68
    go_wp2
    go_ret
    exact ⟨ret_bool HV.out.symm, hB0⟩

set_option maxHeartbeats 2000000 in
theorem l3MayReceive_is (kap : Int) (cl : Bool) (bo : Option Addr) (bc : Nat) (b : List Int) (so : Option Addr) (sc : Nat) (s : List T3) (ro : Option Addr) (rc : Nat) (r : List T3) (w : World) (x : Bool) (hx : mayRB cl b s = x) :
    Calls Try.prog 69 #[.agg #[.int .i64 kap, .bool cl, .slice bo b.length bc, .slice so s.length sc, .slice ro r.length rc]] w fun e w' => e = .returned (.bool x) ∧ Below w.heap.size w w' := by
  have hB0 := below1 w (.cells #[.int .i64 kap, .bool cl, .slice bo b.length bc, .slice so s.length sc, .slice ro r.length rc] 26)
  cases cl
  · by_cases hb : b.length = 0
    · obtain ⟨zb, pb, qb⟩ := len0 hb
      by_cases hs : s.length = 0
      · obtain ⟨zs, ps, qs⟩ := len0 hs
        have HV : Hid (x = false) := by rw [Hid, ← hx, mayRB, decide_eq_false (p := b.length ≠ 0) (by omega), decide_eq_false (p := s.length ≠ 0) (by omega)]; rfl
        clear hb hs hx
        go_enter Try.func69, Try.ntmps69
        go_wp2
        go_ret
        exact ⟨ret_bool HV.out.symm, hB0⟩
      · obtain ⟨zs, ps, qs⟩ := len1 hs
        have HV : Hid (x = true) := by rw [Hid, ← hx, mayRB, decide_eq_true (p := s.length ≠ 0) hs]; simp
        clear hb hs hx
        go_enter Try.func69, Try.ntmps69
        go_wp2
        go_ret
        exact ⟨ret_bool HV.out.symm, hB0⟩
    · obtain ⟨zb, pb, qb⟩ := len1 hb
      have HV : Hid (x = true) := by rw [Hid, ← hx, mayRB, decide_eq_true (p := b.length ≠ 0) hb]; rfl
      clear hb hx
      go_enter Try.func69, Try.ntmps69
      go_wp2
      go_ret
      exact ⟨ret_bool HV.out.symm, hB0⟩
  · have HV : Hid (x = true) := by rw [Hid, ← hx, mayRB]; rfl
    clear hx
    go_enter Try.func69, Try.ntmps69
    go_wp2
    go_ret
    exact ⟨ret_bool HV.out.symm, hB0⟩

set_option maxHeartbeats 2000000 in
theorem specMayS_is (kap : Int) (cl : Bool) (bo : Option Addr) (bc : Nat) (b : List Int) (so : Option Addr) (sc : Nat) (s : List T3) (ro : Option Addr) (rc : Nat) (r : List T3) (w : World) (x : Bool) (hl : b.length ≤ 9223372036854775807) (hls : s.length ≤ 9223372036854775807) (hlr : r.length ≤ 9223372036854775807) (hz : ChanIn w.heap.size w bo b so s ro r) (hx : (goodC kap cl b s r && maySB kap cl b r) = x) :
    Calls Try.prog 25 #[.agg #[.int .i64 kap, .bool cl, .slice bo b.length bc, .slice so s.length sc, .slice ro r.length rc]] w fun e w' => e = .returned (.bool x) ∧ Below w.heap.size w w' := by
  have hB0 := below1 w (.cells #[.int .i64 kap, .bool cl, .slice bo b.length bc, .slice so s.length sc, .slice ro r.length rc] 26)
  have X0 := Box5.new w (.int .i64 kap) (.bool cl) (.slice bo b.length bc) (.slice so s.length sc) (.slice ro r.length rc) 26
  cases hg : goodC kap cl b s r
  · have HV : Hid (x = false) := by rw [Hid, ← hx, hg]; rfl
    have HG : Hid (goodC kap cl b s r = false) := hg
    clear hx hg X0
    go_enter Try.func25, Try.ntmps25
    go_wp2_with fail
    refine (specGood_is kap cl bo bc b so sc s ro rc r _ false hl hls hlr (hz.2.1.later hB0) (hz.2.2.later hB0) HG.out).mono ?_
    rintro e w1 ⟨rfl, hb1⟩
    have hB1 := hB0.trans (hb1.mono (by simp))
    go_wp2
    go_ret
    exact ⟨ret_bool HV.out.symm, hB1⟩
  · have HV : Hid (maySB kap cl b r = x) := by rw [Hid, ← hx, hg]; rfl
    have HG : Hid (goodC kap cl b s r = true) := hg
    clear hx hg
    go_enter Try.func25, Try.ntmps25
    go_wp2_with fail
    refine (specGood_is kap cl bo bc b so sc s ro rc r _ true hl hls hlr (hz.2.1.later hB0) (hz.2.2.later hB0) HG.out).mono ?_
    rintro e w1 ⟨rfl, hb1⟩
    have hB1 := hB0.trans (hb1.mono (by simp))
    obtain ⟨_, x0, x1, x2, x3, x4⟩ := X0.later hb1
    clear hb1 X0
    go_wp2_with fail
    refine (l3MaySend_is kap cl bo bc b so sc s ro rc r _ x HV.out).mono ?_
    rintro e w2 ⟨rfl, hb2⟩
    have hB2 := hB1.trans (hb2.mono hB1.size)
    go_wp2
    go_ret
    exact ⟨rfl, hB2⟩

set_option maxHeartbeats 2000000 in
theorem specMayR_is (kap : Int) (cl : Bool) (bo : Option Addr) (bc : Nat) (b : List Int) (so : Option Addr) (sc : Nat) (s : List T3) (ro : Option Addr) (rc : Nat) (r : List T3) (w : World) (x : Bool) (hl : b.length ≤ 9223372036854775807) (hls : s.length ≤ 9223372036854775807) (hlr : r.length ≤ 9223372036854775807) (hz : ChanIn w.heap.size w bo b so s ro r) (hx : (goodC kap cl b s r && mayRB cl b s) = x) :
    Calls Try.prog 27 #[.agg #[.int .i64 kap, .bool cl, .slice bo b.length bc, .slice so s.length sc, .slice ro r.length rc]] w fun e w' => e = .returned (.bool x) ∧ Below w.heap.size w w' := by
  have hB0 := below1 w (.cells #[.int .i64 kap, .bool cl, .slice bo b.length bc, .slice so s.length sc, .slice ro r.length rc] 26)
  have X0 := Box5.new w (.int .i64 kap) (.bool cl) (.slice bo b.length bc) (.slice so s.length sc) (.slice ro r.length rc) 26
  cases hg : goodC kap cl b s r
  · have HV : Hid (x = false) := by rw [Hid, ← hx, hg]; rfl
    have HG : Hid (goodC kap cl b s r = false) := hg
    clear hx hg X0
    go_enter Try.func27, Try.ntmps27
    go_wp2_with fail
    refine (specGood_is kap cl bo bc b so sc s ro rc r _ false hl hls hlr (hz.2.1.later hB0) (hz.2.2.later hB0) HG.out).mono ?_
    rintro e w1 ⟨rfl, hb1⟩
    have hB1 := hB0.trans (hb1.mono (by simp))
    go_wp2
    go_ret
    exact ⟨ret_bool HV.out.symm, hB1⟩
  · have HV : Hid (mayRB cl b s = x) := by rw [Hid, ← hx, hg]; rfl
    have HG : Hid (goodC kap cl b s r = true) := hg
    clear hx hg
    go_enter Try.func27, Try.ntmps27
    go_wp2_with fail
    refine (specGood_is kap cl bo bc b so sc s ro rc r _ true hl hls hlr (hz.2.1.later hB0) (hz.2.2.later hB0) HG.out).mono ?_
    rintro e w1 ⟨rfl, hb1⟩
    have hB1 := hB0.trans (hb1.mono (by simp))
    obtain ⟨_, x0, x1, x2, x3, x4⟩ := X0.later hb1
    clear hb1 X0
    go_wp2_with fail
    refine (l3MayReceive_is kap cl bo bc b so sc s ro rc r _ x HV.out).mono ?_
    rintro e w2 ⟨rfl, hb2⟩
    have hB2 := hB1.trans (hb2.mono hB1.size)
    go_wp2
    go_ret
    exact ⟨rfl, hB2⟩

set_option maxHeartbeats 2000000 in
theorem implMayS_is (kap : Int) (cl : Bool) (bo : Option Addr) (bc : Nat) (b : List Int) (so : Option Addr) (sc : Nat) (s : List T3) (ro : Option Addr) (rc : Nat) (r : List T3) (w : World) (x : Bool) (hl : b.length ≤ 9223372036854775807) (hls : s.length ≤ 9223372036854775807) (hlr : r.length ≤ 9223372036854775807) (hz : ChanIn w.heap.size w bo b so s ro r) (hy : (goodC kap cl b s r && maySB kap cl b r) = x) :
    Calls Try.prog 26 #[.agg #[.int .i64 kap, .bool cl, .slice bo b.length bc, .slice so s.length sc, .slice ro r.length rc]] w fun e w' => e = .returned (.bool x) ∧ Below w.heap.size w w' := by
  have hB0 := below1 w (.cells #[.int .i64 kap, .bool cl, .slice bo b.length bc, .slice so s.length sc, .slice ro r.length rc] 26)
  have X0 := Box5.new w (.int .i64 kap) (.bool cl) (.slice bo b.length bc) (.slice so s.length sc) (.slice ro r.length rc) 26
  cases hg : goodC kap cl b s r
  · have HV : Hid (x = false) := by rw [Hid, ← hy, hg]; rfl
    have HG : Hid (goodC kap cl b s r = false) := hg
    clear hy hg X0
    go_enter Try.func26, Try.ntmps26
    go_wp2_with fail
    refine (implGood_is kap cl bo bc b so sc s ro rc r _ false hl hls hlr (hz.2.1.later hB0) (hz.2.2.later hB0) HG.out).mono ?_
    rintro e w1 ⟨rfl, hb1⟩
    have hB1 := hB0.trans (hb1.mono (by simp))
    go_wp2
    go_ret
    exact ⟨ret_bool HV.out.symm, hB1⟩
  have hx : maySB kap cl b r = x := by rw [← hy, hg]; rfl
  have HG : Hid (goodC kap cl b s r = true) := hg
  clear hy hg
  cases cl
  · by_cases hr : r.length = 0
    · obtain ⟨zr, pr, qr⟩ := len0 hr
      by_cases hk : (b.length : Int) < kap
      · have HV : Hid (x = true) := by rw [Hid, ← hx, maySB, decide_eq_true (p := (b.length : Int) < kap) hk]; simp
        clear hr hx
        go_enter Try.func26, Try.ntmps26
        go_wp2_with fail
        refine (implGood_is kap _ bo bc b so sc s ro rc r _ true hl hls hlr (hz.2.1.later hB0) (hz.2.2.later hB0) HG.out).mono ?_
        rintro e w1 ⟨rfl, hb1⟩
        have hB1 := hB0.trans (hb1.mono (by simp))
        obtain ⟨_, x0, x1, x2, x3, x4⟩ := X0.later hb1
        clear hb1 X0
        go_wp2
        go_ret
        exact ⟨ret_bool HV.out.symm, hB1⟩
      · have hk' : decide ((b.length : Int) < kap) = false := by simpa using hk
        have HV : Hid (x = false) := by rw [Hid, ← hx, maySB, hk', decide_eq_false (p := r.length ≠ 0) (by omega)]; rfl
        clear hr hx hk
        go_enter Try.func26, Try.ntmps26
        go_wp2_with fail
        refine (implGood_is kap _ bo bc b so sc s ro rc r _ true hl hls hlr (hz.2.1.later hB0) (hz.2.2.later hB0) HG.out).mono ?_
        rintro e w1 ⟨rfl, hb1⟩
        have hB1 := hB0.trans (hb1.mono (by simp))
        obtain ⟨_, x0, x1, x2, x3, x4⟩ := X0.later hb1
        clear hb1 X0
        go_wp2
        go_ret
        exact ⟨ret_bool HV.out.symm, hB1⟩
    · obtain ⟨zr, pr, qr⟩ := len1 hr
      have HV : Hid (x = true) := by rw [Hid, ← hx, maySB, decide_eq_true (p := r.length ≠ 0) hr]; rfl
      clear hr hx
      go_enter Try.func26, Try.ntmps26
      go_wp2_with fail
      refine (implGood_is kap _ bo bc b so sc s ro rc r _ true hl hls hlr (hz.2.1.later hB0) (hz.2.2.later hB0) HG.out).mono ?_
      rintro e w1 ⟨rfl, hb1⟩
      have hB1 := hB0.trans (hb1.mono (by simp))
      obtain ⟨_, x0, x1, x2, x3, x4⟩ := X0.later hb1
      clear hb1 X0
      go_wp2
      go_ret
      exact ⟨ret_bool HV.out.symm, hB1⟩
  · have HV : Hid (x = true) := by rw [Hid, ← hx, maySB]; rfl
    clear hx
    go_enter Try.func26, Try.ntmps26
    go_wp2_with fail
    refine (implGood_is kap _ bo bc b so sc s ro rc r _ true hl hls hlr (hz.2.1.later hB0) (hz.2.2.later hB0) HG.out).mono ?_
    rintro e w1 ⟨rfl, hb1⟩
    have hB1 := hB0.trans (hb1.mono (by simp))
    obtain ⟨_, x0, x1, x2, x3, x4⟩ := X0.later hb1
    clear hb1 X0
    go_wp2
    go_ret
    exact ⟨ret_bool HV.out.symm, hB1⟩

set_option maxHeartbeats 2000000 in
theorem implMayR_is (kap : Int) (cl : Bool) (bo : Option Addr) (bc : Nat) (b : List Int) (so : Option Addr) (sc : Nat) (s : List T3) (ro : Option Addr) (rc : Nat) (r : List T3) (w : World) (x : Bool) (hl : b.length ≤ 9223372036854775807) (hls : s.length ≤ 9223372036854775807) (hlr : r.length ≤ 9223372036854775807) (hz : ChanIn w.heap.size w bo b so s ro r) (hy : (goodC kap cl b s r && mayRB cl b s) = x) :
    Calls Try.prog 28 #[.agg #[.int .i64 kap, .bool cl, .slice bo b.length bc, .slice so s.length sc, .slice ro r.length rc]] w fun e w' => e = .returned (.bool x) ∧ Below w.heap.size w w' := by
  have hB0 := below1 w (.cells #[.int .i64 kap, .bool cl, .slice bo b.length bc, .slice so s.length sc, .slice ro r.length rc] 26)
  have X0 := Box5.new w (.int .i64 kap) (.bool cl) (.slice bo b.length bc) (.slice so s.length sc) (.slice ro r.length rc) 26
  cases hg : goodC kap cl b s r
  · have HV : Hid (x = false) := by rw [Hid, ← hy, hg]; rfl
    have HG : Hid (goodC kap cl b s r = false) := hg
    clear hy hg X0
    go_enter Try.func28, Try.ntmps28
    go_wp2_with fail
    refine (implGood_is kap cl bo bc b so sc s ro rc r _ false hl hls hlr (hz.2.1.later hB0) (hz.2.2.later hB0) HG.out).mono ?_
    rintro e w1 ⟨rfl, hb1⟩
    have hB1 := hB0.trans (hb1.mono (by simp))
    go_wp2
    go_ret
    exact ⟨ret_bool HV.out.symm, hB1⟩
  have hx : mayRB cl b s = x := by rw [← hy, hg]; rfl
  have HG : Hid (goodC kap cl b s r = true) := hg
  clear hy hg
  cases cl
  · by_cases hb : b.length = 0
    · obtain ⟨zb, pb, qb⟩ := len0 hb
      by_cases hs : s.length = 0
      · obtain ⟨zs, ps, qs⟩ := len0 hs
        have HV : Hid (x = false) := by rw [Hid, ← hx, mayRB, decide_eq_false (p := b.length ≠ 0) (by omega), decide_eq_false (p := s.length ≠ 0) (by omega)]; rfl
        clear hb hs hx
        go_enter Try.func28, Try.ntmps28
        go_wp2_with fail
        refine (implGood_is kap _ bo bc b so sc s ro rc r _ true hl hls hlr (hz.2.1.later hB0) (hz.2.2.later hB0) HG.out).mono ?_
        rintro e w1 ⟨rfl, hb1⟩
        have hB1 := hB0.trans (hb1.mono (by simp))
        obtain ⟨_, x0, x1, x2, x3, x4⟩ := X0.later hb1
        clear hb1 X0
        go_wp2
        go_ret
        exact ⟨ret_bool HV.out.symm, hB1⟩
      · obtain ⟨zs, ps, qs⟩ := len1 hs
        have HV : Hid (x = true) := by rw [Hid, ← hx, mayRB, decide_eq_true (p := s.length ≠ 0) hs]; simp
        clear hb hs hx
        go_enter Try.func28, Try.ntmps28
        go_wp2_with fail
        refine (implGood_is kap _ bo bc b so sc s ro rc r _ true hl hls hlr (hz.2.1.later hB0) (hz.2.2.later hB0) HG.out).mono ?_
        rintro e w1 ⟨rfl, hb1⟩
        have hB1 := hB0.trans (hb1.mono (by simp))
        obtain ⟨_, x0, x1, x2, x3, x4⟩ := X0.later hb1
        clear hb1 X0
        go_wp2
        go_ret
        exact ⟨ret_bool HV.out.symm, hB1⟩
    · obtain ⟨zb, pb, qb⟩ := len1 hb
      have HV : Hid (x = true) := by rw [Hid, ← hx, mayRB, decide_eq_true (p := b.length ≠ 0) hb]; rfl
      clear hb hx
      go_enter Try.func28, Try.ntmps28
      go_wp2_with fail
      refine (implGood_is kap _ bo bc b so sc s ro rc r _ true hl hls hlr (hz.2.1.later hB0) (hz.2.2.later hB0) HG.out).mono ?_
      rintro e w1 ⟨rfl, hb1⟩
      have hB1 := hB0.trans (hb1.mono (by simp))
      obtain ⟨_, x0, x1, x2, x3, x4⟩ := X0.later hb1
      clear hb1 X0
      go_wp2
      go_ret
      exact ⟨ret_bool HV.out.symm, hB1⟩
  · have HV : Hid (x = true) := by rw [Hid, ← hx, mayRB]; rfl
    clear hx
    go_enter Try.func28, Try.ntmps28
    go_wp2_with fail
    refine (implGood_is kap _ bo bc b so sc s ro rc r _ true hl hls hlr (hz.2.1.later hB0) (hz.2.2.later hB0) HG.out).mono ?_
    rintro e w1 ⟨rfl, hb1⟩
    have hB1 := hB0.trans (hb1.mono (by simp))
    obtain ⟨_, x0, x1, x2, x3, x4⟩ := X0.later hb1
    clear hb1 X0
    go_wp2
    go_ret
    exact ⟨ret_bool HV.out.symm, hB1⟩

set_option maxRecDepth 10000 in
set_option maxHeartbeats 8000000 in
theorem lawGood_any (kap : Int) (cl : Bool) (bo : Option Addr) (bc : Nat) (b : List Int) (so : Option Addr) (sc : Nat) (s : List T3) (ro : Option Addr) (rc : Nat) (r : List T3) (w : World) (hl : b.length ≤ 9223372036854775807) (hls : s.length ≤ 9223372036854775807) (hlr : r.length ≤ 9223372036854775807) (hz : ChanIn w.heap.size w bo b so s ro r) :
    Calls Try.prog 5 #[.agg #[.int .i64 kap, .bool cl, .slice bo b.length bc, .slice so s.length sc, .slice ro r.length rc]] w fun e w' => e = .returned (.bool true) ∧ Below w.heap.size w w' := by
  obtain ⟨x, hx⟩ : ∃ x, goodC kap cl b s r = x := ⟨_, rfl⟩
  have HX : Hid (goodC kap cl b s r = x) := hx
  have hne : (x != x) = false := by simp
  clear hx
  go_enter Try.func5, Try.ntmps5
  go_wp2_with fail
  refine (szChan_any kap cl bo b.length bc so s.length sc ro r.length rc _ hl hls hlr).mono ?_
  rintro e w1 ⟨⟨z, rfl, hr⟩, hb1⟩
  have A1 := (Box5.new w (.int .i64 kap) (.bool cl) (.slice bo b.length bc) (.slice so s.length sc) (.slice ro r.length rc) 44).later hb1
  have hB1 := (below1 w (.cells #[.int .i64 kap, .bool cl, .slice bo b.length bc, .slice so s.length sc, .slice ro r.length rc] 44)).trans (hb1.mono (by simp))
  obtain ⟨_, a0, a1, a2, a3, a4⟩ := id A1
  clear hb1
  rcases hr with hr | ⟨hr0, k1, k2, k3⟩
  · go_wp2
    go_ret
    exact ⟨rfl, hB1⟩
  · go_wp2_with fail
    refine (toChan_any kap cl bo bc b so sc s ro rc r _ k1 k2 k3 (hz.later hB1)).mono ?_
    rintro e w2 ⟨gb2, gs2, gr2, rfl, hF2, hb2⟩
    have hB2 := hB1.trans (hb2.mono hB1.size)
    have A2 := A1.later hb2
    have Z2 := hF2.chan
    clear hb2 hF2 A1 a0 a1 a2 a3 a4
    obtain ⟨_, a0, a1, a2, a3, a4⟩ := id A2
    go_wp2_with fail
    refine (specGood_is kap cl (some ⟨gb2, 0, none⟩) b.length b (some ⟨gs2, 0, none⟩) s.length s (some ⟨gr2, 0, none⟩) r.length r w2 x hl hls hlr (Z2.2.1) (Z2.2.2) HX.out).mono ?_
    rintro e w3 ⟨rfl, hb3⟩
    have hB3 := hB2.trans (hb3.mono hB2.size)
    have A3 := A2.later hb3
    clear hb3 Z2 A2 a0 a1 a2 a3 a4
    obtain ⟨_, a0, a1, a2, a3, a4⟩ := id A3
    go_wp2_with fail
    refine (toChan_any kap cl bo bc b so sc s ro rc r _ k1 k2 k3 (hz.later hB3)).mono ?_
    rintro e w4 ⟨gb4, gs4, gr4, rfl, hF4, hb4⟩
    have hB4 := hB3.trans (hb4.mono hB3.size)
    have A4 := A3.later hb4
    have Z4 := hF4.chan
    clear hb4 hF4 A3 a0 a1 a2 a3 a4
    obtain ⟨_, a0, a1, a2, a3, a4⟩ := id A4
    have Z4' := Z4.later (below1 w4 (.cells #[.int .i64 kap, .bool cl, .slice (some ⟨gb4, 0, none⟩) b.length b.length, .slice (some ⟨gs4, 0, none⟩) s.length s.length, .slice (some ⟨gr4, 0, none⟩) r.length r.length] 26))
    go_wp2_with fail
    refine (implGood_is kap cl (some ⟨gb4, 0, none⟩) b.length b (some ⟨gs4, 0, none⟩) s.length s (some ⟨gr4, 0, none⟩) r.length r _ x hl hls hlr (Z4'.2.1) (Z4'.2.2) HX.out).mono ?_
    rintro e w5 ⟨rfl, hb5⟩
    have hb45 : Below w4.heap.size w4 w5 := (below1 w4 (.cells #[.int .i64 kap, .bool cl, .slice (some ⟨gb4, 0, none⟩) b.length b.length, .slice (some ⟨gs4, 0, none⟩) s.length s.length, .slice (some ⟨gr4, 0, none⟩) r.length r.length] 26)).trans (hb5.mono (by simp))
    have hB5 := hB4.trans (hb45.mono hB4.size)
    have A5 := A4.later hb45
    have X5 := (Box5.new w4 (.int .i64 kap) (.bool cl) (.slice (some ⟨gb4, 0, none⟩) b.length b.length) (.slice (some ⟨gs4, 0, none⟩) s.length s.length) (.slice (some ⟨gr4, 0, none⟩) r.length r.length) 26).later hb5
    have Z5 := Z4.later hb45
    clear hb5 Z4 Z4' hb45 A4 a0 a1 a2 a3 a4
    obtain ⟨_, a0, a1, a2, a3, a4⟩ := id A5
    obtain ⟨_, x0, x1, x2, x3, x4⟩ := id X5
    go_wp2
    go_region_with (first
      | (go_at_call 23; refine (toChan_any kap cl bo bc b so sc s ro rc r _ k1 k2 k3 (by exact hz.later hB5.drew)).mono ?_; rintro e w6 ⟨gb6, gs6, gr6, rfl, hF6, hb6⟩; have X6 : Box5 w6 w4.heap.size (.int .i64 kap) (.bool cl) (.slice (some ⟨gb4, 0, none⟩) b.length b.length) (.slice (some ⟨gs4, 0, none⟩) s.length s.length) (.slice (some ⟨gr4, 0, none⟩) r.length r.length) := Box5.later (W := w5.drew) X5 hb6; obtain ⟨_, y0, y1, y2, y3, y4⟩ := id X6; have Z56 : ChanIn w6.heap.size w6 (some ⟨gb4, 0, none⟩) b (some ⟨gs4, 0, none⟩) s (some ⟨gr4, 0, none⟩) r := ChanIn.later (W := w5.drew) Z5 hb6; have hB6 : Below w.heap.size w w6 := hB5.drew.trans (hb6.mono hB5.size); have Z6 := hF6.chan; clear hb6 hF6)
      | (go_at_call 18; refine (eqChan_same kap cl (some ⟨gb4, 0, none⟩) b.length b (some ⟨gs4, 0, none⟩) s.length s (some ⟨gr4, 0, none⟩) r.length r _ _ _ _ _ _ _ k1 k2 k3 (by exact Z56) (by exact Z6)).mono ?_; rintro e w7 ⟨rfl, hb7⟩; have hB7 : Below w.heap.size w w7 := hB6.trans (hb7.mono hB6.size)))
    all_goals go_wp2
    all_goals go_ret
    all_goals exact ⟨rfl, by assumption⟩

set_option maxRecDepth 10000 in
set_option maxHeartbeats 8000000 in
theorem lawMayS_any (kap : Int) (cl : Bool) (bo : Option Addr) (bc : Nat) (b : List Int) (so : Option Addr) (sc : Nat) (s : List T3) (ro : Option Addr) (rc : Nat) (r : List T3) (w : World) (hl : b.length ≤ 9223372036854775807) (hls : s.length ≤ 9223372036854775807) (hlr : r.length ≤ 9223372036854775807) (hz : ChanIn w.heap.size w bo b so s ro r) :
    Calls Try.prog 6 #[.agg #[.int .i64 kap, .bool cl, .slice bo b.length bc, .slice so s.length sc, .slice ro r.length rc]] w fun e w' => e = .returned (.bool true) ∧ Below w.heap.size w w' := by
  obtain ⟨x, hx⟩ : ∃ x, (goodC kap cl b s r && maySB kap cl b r) = x := ⟨_, rfl⟩
  have HX : Hid ((goodC kap cl b s r && maySB kap cl b r) = x) := hx
  have hne : (x != x) = false := by simp
  clear hx
  go_enter Try.func6, Try.ntmps6
  go_wp2_with fail
  refine (szChan_any kap cl bo b.length bc so s.length sc ro r.length rc _ hl hls hlr).mono ?_
  rintro e w1 ⟨⟨z, rfl, hr⟩, hb1⟩
  have A1 := (Box5.new w (.int .i64 kap) (.bool cl) (.slice bo b.length bc) (.slice so s.length sc) (.slice ro r.length rc) 44).later hb1
  have hB1 := (below1 w (.cells #[.int .i64 kap, .bool cl, .slice bo b.length bc, .slice so s.length sc, .slice ro r.length rc] 44)).trans (hb1.mono (by simp))
  obtain ⟨_, a0, a1, a2, a3, a4⟩ := id A1
  clear hb1
  rcases hr with hr | ⟨hr0, k1, k2, k3⟩
  · go_wp2
    go_ret
    exact ⟨rfl, hB1⟩
  · go_wp2_with fail
    refine (toChan_any kap cl bo bc b so sc s ro rc r _ k1 k2 k3 (hz.later hB1)).mono ?_
    rintro e w2 ⟨gb2, gs2, gr2, rfl, hF2, hb2⟩
    have hB2 := hB1.trans (hb2.mono hB1.size)
    have A2 := A1.later hb2
    have Z2 := hF2.chan
    clear hb2 hF2 A1 a0 a1 a2 a3 a4
    obtain ⟨_, a0, a1, a2, a3, a4⟩ := id A2
    go_wp2_with fail
    refine (specMayS_is kap cl (some ⟨gb2, 0, none⟩) b.length b (some ⟨gs2, 0, none⟩) s.length s (some ⟨gr2, 0, none⟩) r.length r w2 x hl hls hlr Z2 HX.out).mono ?_
    rintro e w3 ⟨rfl, hb3⟩
    have hB3 := hB2.trans (hb3.mono hB2.size)
    have A3 := A2.later hb3
    clear hb3 Z2 A2 a0 a1 a2 a3 a4
    obtain ⟨_, a0, a1, a2, a3, a4⟩ := id A3
    go_wp2_with fail
    refine (toChan_any kap cl bo bc b so sc s ro rc r _ k1 k2 k3 (hz.later hB3)).mono ?_
    rintro e w4 ⟨gb4, gs4, gr4, rfl, hF4, hb4⟩
    have hB4 := hB3.trans (hb4.mono hB3.size)
    have A4 := A3.later hb4
    have Z4 := hF4.chan
    clear hb4 hF4 A3 a0 a1 a2 a3 a4
    obtain ⟨_, a0, a1, a2, a3, a4⟩ := id A4
    have Z4' := Z4.later (below1 w4 (.cells #[.int .i64 kap, .bool cl, .slice (some ⟨gb4, 0, none⟩) b.length b.length, .slice (some ⟨gs4, 0, none⟩) s.length s.length, .slice (some ⟨gr4, 0, none⟩) r.length r.length] 26))
    go_wp2_with fail
    refine (implMayS_is kap cl (some ⟨gb4, 0, none⟩) b.length b (some ⟨gs4, 0, none⟩) s.length s (some ⟨gr4, 0, none⟩) r.length r _ x hl hls hlr Z4' HX.out).mono ?_
    rintro e w5 ⟨rfl, hb5⟩
    have hb45 : Below w4.heap.size w4 w5 := (below1 w4 (.cells #[.int .i64 kap, .bool cl, .slice (some ⟨gb4, 0, none⟩) b.length b.length, .slice (some ⟨gs4, 0, none⟩) s.length s.length, .slice (some ⟨gr4, 0, none⟩) r.length r.length] 26)).trans (hb5.mono (by simp))
    have hB5 := hB4.trans (hb45.mono hB4.size)
    have A5 := A4.later hb45
    have X5 := (Box5.new w4 (.int .i64 kap) (.bool cl) (.slice (some ⟨gb4, 0, none⟩) b.length b.length) (.slice (some ⟨gs4, 0, none⟩) s.length s.length) (.slice (some ⟨gr4, 0, none⟩) r.length r.length) 26).later hb5
    have Z5 := Z4.later hb45
    clear hb5 Z4 Z4' hb45 A4 a0 a1 a2 a3 a4
    obtain ⟨_, a0, a1, a2, a3, a4⟩ := id A5
    obtain ⟨_, x0, x1, x2, x3, x4⟩ := id X5
    go_wp2
    go_region_with (first
      | (go_at_call 23; refine (toChan_any kap cl bo bc b so sc s ro rc r _ k1 k2 k3 (by exact hz.later hB5.drew)).mono ?_; rintro e w6 ⟨gb6, gs6, gr6, rfl, hF6, hb6⟩; have X6 : Box5 w6 w4.heap.size (.int .i64 kap) (.bool cl) (.slice (some ⟨gb4, 0, none⟩) b.length b.length) (.slice (some ⟨gs4, 0, none⟩) s.length s.length) (.slice (some ⟨gr4, 0, none⟩) r.length r.length) := Box5.later (W := w5.drew) X5 hb6; obtain ⟨_, y0, y1, y2, y3, y4⟩ := id X6; have Z56 : ChanIn w6.heap.size w6 (some ⟨gb4, 0, none⟩) b (some ⟨gs4, 0, none⟩) s (some ⟨gr4, 0, none⟩) r := ChanIn.later (W := w5.drew) Z5 hb6; have hB6 : Below w.heap.size w w6 := hB5.drew.trans (hb6.mono hB5.size); have Z6 := hF6.chan; clear hb6 hF6)
      | (go_at_call 18; refine (eqChan_same kap cl (some ⟨gb4, 0, none⟩) b.length b (some ⟨gs4, 0, none⟩) s.length s (some ⟨gr4, 0, none⟩) r.length r _ _ _ _ _ _ _ k1 k2 k3 (by exact Z56) (by exact Z6)).mono ?_; rintro e w7 ⟨rfl, hb7⟩; have hB7 : Below w.heap.size w w7 := hB6.trans (hb7.mono hB6.size)))
    all_goals go_wp2
    all_goals go_ret
    all_goals exact ⟨rfl, by assumption⟩

set_option maxRecDepth 10000 in
set_option maxHeartbeats 8000000 in
theorem lawMayR_any (kap : Int) (cl : Bool) (bo : Option Addr) (bc : Nat) (b : List Int) (so : Option Addr) (sc : Nat) (s : List T3) (ro : Option Addr) (rc : Nat) (r : List T3) (w : World) (hl : b.length ≤ 9223372036854775807) (hls : s.length ≤ 9223372036854775807) (hlr : r.length ≤ 9223372036854775807) (hz : ChanIn w.heap.size w bo b so s ro r) :
    Calls Try.prog 7 #[.agg #[.int .i64 kap, .bool cl, .slice bo b.length bc, .slice so s.length sc, .slice ro r.length rc]] w fun e w' => e = .returned (.bool true) ∧ Below w.heap.size w w' := by
  obtain ⟨x, hx⟩ : ∃ x, (goodC kap cl b s r && mayRB cl b s) = x := ⟨_, rfl⟩
  have HX : Hid ((goodC kap cl b s r && mayRB cl b s) = x) := hx
  have hne : (x != x) = false := by simp
  clear hx
  go_enter Try.func7, Try.ntmps7
  go_wp2_with fail
  refine (szChan_any kap cl bo b.length bc so s.length sc ro r.length rc _ hl hls hlr).mono ?_
  rintro e w1 ⟨⟨z, rfl, hr⟩, hb1⟩
  have A1 := (Box5.new w (.int .i64 kap) (.bool cl) (.slice bo b.length bc) (.slice so s.length sc) (.slice ro r.length rc) 44).later hb1
  have hB1 := (below1 w (.cells #[.int .i64 kap, .bool cl, .slice bo b.length bc, .slice so s.length sc, .slice ro r.length rc] 44)).trans (hb1.mono (by simp))
  obtain ⟨_, a0, a1, a2, a3, a4⟩ := id A1
  clear hb1
  rcases hr with hr | ⟨hr0, k1, k2, k3⟩
  · go_wp2
    go_ret
    exact ⟨rfl, hB1⟩
  · go_wp2_with fail
    refine (toChan_any kap cl bo bc b so sc s ro rc r _ k1 k2 k3 (hz.later hB1)).mono ?_
    rintro e w2 ⟨gb2, gs2, gr2, rfl, hF2, hb2⟩
    have hB2 := hB1.trans (hb2.mono hB1.size)
    have A2 := A1.later hb2
    have Z2 := hF2.chan
    clear hb2 hF2 A1 a0 a1 a2 a3 a4
    obtain ⟨_, a0, a1, a2, a3, a4⟩ := id A2
    go_wp2_with fail
    refine (specMayR_is kap cl (some ⟨gb2, 0, none⟩) b.length b (some ⟨gs2, 0, none⟩) s.length s (some ⟨gr2, 0, none⟩) r.length r w2 x hl hls hlr Z2 HX.out).mono ?_
    rintro e w3 ⟨rfl, hb3⟩
    have hB3 := hB2.trans (hb3.mono hB2.size)
    have A3 := A2.later hb3
    clear hb3 Z2 A2 a0 a1 a2 a3 a4
    obtain ⟨_, a0, a1, a2, a3, a4⟩ := id A3
    go_wp2_with fail
    refine (toChan_any kap cl bo bc b so sc s ro rc r _ k1 k2 k3 (hz.later hB3)).mono ?_
    rintro e w4 ⟨gb4, gs4, gr4, rfl, hF4, hb4⟩
    have hB4 := hB3.trans (hb4.mono hB3.size)
    have A4 := A3.later hb4
    have Z4 := hF4.chan
    clear hb4 hF4 A3 a0 a1 a2 a3 a4
    obtain ⟨_, a0, a1, a2, a3, a4⟩ := id A4
    have Z4' := Z4.later (below1 w4 (.cells #[.int .i64 kap, .bool cl, .slice (some ⟨gb4, 0, none⟩) b.length b.length, .slice (some ⟨gs4, 0, none⟩) s.length s.length, .slice (some ⟨gr4, 0, none⟩) r.length r.length] 26))
    go_wp2_with fail
    refine (implMayR_is kap cl (some ⟨gb4, 0, none⟩) b.length b (some ⟨gs4, 0, none⟩) s.length s (some ⟨gr4, 0, none⟩) r.length r _ x hl hls hlr Z4' HX.out).mono ?_
    rintro e w5 ⟨rfl, hb5⟩
    have hb45 : Below w4.heap.size w4 w5 := (below1 w4 (.cells #[.int .i64 kap, .bool cl, .slice (some ⟨gb4, 0, none⟩) b.length b.length, .slice (some ⟨gs4, 0, none⟩) s.length s.length, .slice (some ⟨gr4, 0, none⟩) r.length r.length] 26)).trans (hb5.mono (by simp))
    have hB5 := hB4.trans (hb45.mono hB4.size)
    have A5 := A4.later hb45
    have X5 := (Box5.new w4 (.int .i64 kap) (.bool cl) (.slice (some ⟨gb4, 0, none⟩) b.length b.length) (.slice (some ⟨gs4, 0, none⟩) s.length s.length) (.slice (some ⟨gr4, 0, none⟩) r.length r.length) 26).later hb5
    have Z5 := Z4.later hb45
    clear hb5 Z4 Z4' hb45 A4 a0 a1 a2 a3 a4
    obtain ⟨_, a0, a1, a2, a3, a4⟩ := id A5
    obtain ⟨_, x0, x1, x2, x3, x4⟩ := id X5
    go_wp2
    go_region_with (first
      | (go_at_call 23; refine (toChan_any kap cl bo bc b so sc s ro rc r _ k1 k2 k3 (by exact hz.later hB5.drew)).mono ?_; rintro e w6 ⟨gb6, gs6, gr6, rfl, hF6, hb6⟩; have X6 : Box5 w6 w4.heap.size (.int .i64 kap) (.bool cl) (.slice (some ⟨gb4, 0, none⟩) b.length b.length) (.slice (some ⟨gs4, 0, none⟩) s.length s.length) (.slice (some ⟨gr4, 0, none⟩) r.length r.length) := Box5.later (W := w5.drew) X5 hb6; obtain ⟨_, y0, y1, y2, y3, y4⟩ := id X6; have Z56 : ChanIn w6.heap.size w6 (some ⟨gb4, 0, none⟩) b (some ⟨gs4, 0, none⟩) s (some ⟨gr4, 0, none⟩) r := ChanIn.later (W := w5.drew) Z5 hb6; have hB6 : Below w.heap.size w w6 := hB5.drew.trans (hb6.mono hB5.size); have Z6 := hF6.chan; clear hb6 hF6)
      | (go_at_call 18; refine (eqChan_same kap cl (some ⟨gb4, 0, none⟩) b.length b (some ⟨gs4, 0, none⟩) s.length s (some ⟨gr4, 0, none⟩) r.length r _ _ _ _ _ _ _ k1 k2 k3 (by exact Z56) (by exact Z6)).mono ?_; rintro e w7 ⟨rfl, hb7⟩; have hB7 : Below w.heap.size w w7 := hB6.trans (hb7.mono hB6.size)))
    all_goals go_wp2
    all_goals go_ret
    all_goals exact ⟨rfl, by assumption⟩
end Go.Proofs.Ytblnlhdcdeiedaa
