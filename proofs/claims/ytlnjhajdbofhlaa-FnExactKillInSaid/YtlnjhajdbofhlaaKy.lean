
/- Whether one may send or receive at once: both sides. No conditions but those written. -/
import Derived.Test.YtlnjhajdbofhlaaKb
namespace Go.Proofs.Ytlnjhajdbofhlaa
open Go.RowKit

def maySB (kap : Int) (cl : Bool) (b : List Int) (r : List (Int × Int × Int)) : Bool := cl || (decide (r.length ≠ 0) || decide ((b.length : Int) < kap))
def mayRB (cl : Bool) (b : List Int) (s : List (Int × Int × Int)) : Bool := cl || (decide (b.length ≠ 0) || decide (s.length ≠ 0))
set_option maxRecDepth 10000 in
set_option maxHeartbeats 4000000 in
theorem l3MaySend_is (kap : Int) (cl : Bool) (bo : Option Addr) (bc : Nat) (b : List Int) (so : Option Addr) (sc : Nat) (s : List (Int × Int × Int)) (ro : Option Addr) (rc : Nat) (r : List (Int × Int × Int)) (w : World) (x : Bool) (hx : maySB kap cl b r = x) :
    Calls Try.prog 121 #[.agg #[.int .i64 kap, .bool cl, .slice bo b.length bc, .slice so s.length sc, .slice ro r.length rc]] w fun e w' => e = .returned (.bool x) ∧ Below w.heap.size w w' := by
  have hB0 := below1 w (.cells #[.int .i64 kap, .bool cl, .slice bo b.length bc, .slice so s.length sc, .slice ro r.length rc] 26)
  rcases cl with _ | _
  · rcases h1 : decide (r.length ≠ 0) with _ | _
    · rcases h2 : decide ((b.length : Int) < kap) with _ | _
      · have HV : Hid (x = false) := by rw [Hid, ← hx, maySB, h1, h2]; rfl
        obtain ⟨p0, p1, p2⟩ := Old.len0 (l := r) (by simpa using h1)
        clear h1
        clear hx
        go_enter Try.func121, Try.ntmps121
        go_wp2
        go_ret
        exact ⟨ret_bool HV.out.symm, hB0⟩
      · have HV : Hid (x = true) := by rw [Hid, ← hx, maySB, h1, h2]; rfl
        obtain ⟨p0, p1, p2⟩ := Old.len0 (l := r) (by simpa using h1)
        clear h1
        clear hx
        go_enter Try.func121, Try.ntmps121
        go_wp2
        go_ret
        exact ⟨ret_bool HV.out.symm, hB0⟩
    · have HV : Hid (x = true) := by rw [Hid, ← hx, maySB, h1]; rfl
      obtain ⟨p0, p1, p2⟩ := Old.len1 (l := r) (by simpa using h1)
      clear h1
      clear hx
      go_enter Try.func121, Try.ntmps121
      go_wp2
      go_ret
      exact ⟨ret_bool HV.out.symm, hB0⟩
  · have HV : Hid (x = true) := by rw [Hid, ← hx, maySB]; rfl
    clear hx
    go_enter Try.func121, Try.ntmps121
    go_wp2
    go_ret
    exact ⟨ret_bool HV.out.symm, hB0⟩
set_option maxRecDepth 10000 in
set_option maxHeartbeats 4000000 in
theorem l3MayReceive_is (kap : Int) (cl : Bool) (bo : Option Addr) (bc : Nat) (b : List Int) (so : Option Addr) (sc : Nat) (s : List (Int × Int × Int)) (ro : Option Addr) (rc : Nat) (r : List (Int × Int × Int)) (w : World) (x : Bool) (hx : mayRB cl b s = x) :
    Calls Try.prog 122 #[.agg #[.int .i64 kap, .bool cl, .slice bo b.length bc, .slice so s.length sc, .slice ro r.length rc]] w fun e w' => e = .returned (.bool x) ∧ Below w.heap.size w w' := by
  have hB0 := below1 w (.cells #[.int .i64 kap, .bool cl, .slice bo b.length bc, .slice so s.length sc, .slice ro r.length rc] 26)
  rcases cl with _ | _
  · rcases h1 : decide (b.length ≠ 0) with _ | _
    · rcases h2 : decide (s.length ≠ 0) with _ | _
      · have HV : Hid (x = false) := by rw [Hid, ← hx, mayRB, h1, h2]; rfl
        obtain ⟨p0, p1, p2⟩ := Old.len0 (l := b) (by simpa using h1)
        obtain ⟨q0, q1, q2⟩ := Old.len0 (l := s) (by simpa using h2)
        clear h1 h2
        clear hx
        go_enter Try.func122, Try.ntmps122
        go_wp2
        go_ret
        exact ⟨ret_bool HV.out.symm, hB0⟩
      · have HV : Hid (x = true) := by rw [Hid, ← hx, mayRB, h1, h2]; rfl
        obtain ⟨p0, p1, p2⟩ := Old.len0 (l := b) (by simpa using h1)
        obtain ⟨q0, q1, q2⟩ := Old.len1 (l := s) (by simpa using h2)
        clear h1 h2
        clear hx
        go_enter Try.func122, Try.ntmps122
        go_wp2
        go_ret
        exact ⟨ret_bool HV.out.symm, hB0⟩
    · have HV : Hid (x = true) := by rw [Hid, ← hx, mayRB, h1]; rfl
      obtain ⟨p0, p1, p2⟩ := Old.len1 (l := b) (by simpa using h1)
      clear h1
      clear hx
      go_enter Try.func122, Try.ntmps122
      go_wp2
      go_ret
      exact ⟨ret_bool HV.out.symm, hB0⟩
  · have HV : Hid (x = true) := by rw [Hid, ← hx, mayRB]; rfl
    clear hx
    go_enter Try.func122, Try.ntmps122
    go_wp2
    go_ret
    exact ⟨ret_bool HV.out.symm, hB0⟩
set_option maxRecDepth 10000 in
set_option maxHeartbeats 4000000 in
theorem implMayS_is (kap : Int) (cl : Bool) (bo : Option Addr) (bc : Nat) (b : List Int) (so : Option Addr) (sc : Nat) (s : List (Int × Int × Int)) (ro : Option Addr) (rc : Nat) (r : List (Int × Int × Int)) (w : World) (x : Bool) (hlb : b.length ≤ 1048576) (hls : s.length ≤ 1048576) (hlr : r.length ≤ 1048576) (hz : InChan w.heap.size w bo b so s ro r) (hg : goodP (kap, cl, b, s, r) = true) (hx : maySB kap cl b r = x) :
    Calls Try.prog 123 #[.agg #[.int .i64 kap, .bool cl, .slice bo b.length bc, .slice so s.length sc, .slice ro r.length rc]] w fun e w' => e = .returned (.bool x) ∧ Below w.heap.size w w' := by
  have hB0 := below1 w (.cells #[.int .i64 kap, .bool cl, .slice bo b.length bc, .slice so s.length sc, .slice ro r.length rc] 26)
  have X0 := hid (Bx.new (w := w) (p := w.heap.size) [.int .i64 kap, .bool cl, .slice bo b.length bc, .slice so s.length sc, .slice ro r.length rc] 26 rfl)
  have HG := hid hg
  clear hg
  rcases cl with _ | _
  · rcases h1 : decide (r.length ≠ 0) with _ | _
    · rcases h2 : decide ((b.length : Int) < kap) with _ | _
      · have HV : Hid (x = false) := by rw [Hid, ← hx, maySB, h1, h2]; rfl
        obtain ⟨p0, p1, p2⟩ := Old.len0 (l := r) (by simpa using h1)
        clear h1
        clear hx
        go_enter Try.func123, Try.ntmps123
        go_wp2_with fail
        refine (implGoodC_is kap _ bo bc b so sc s ro rc r _ true hlb hls hlr (hz.later hB0) HG.out).mono ?_
        rintro e w1 ⟨rfl, hb1⟩
        have hB1 := hB0.trans (hb1.mono hB0.size)
        have X1 := X0.out.later hb1
        have x0 := X1.c 0 rfl
        have x1 := X1.c 1 rfl
        have x2 := X1.c 2 rfl
        have x3 := X1.c 3 rfl
        have x4 := X1.c 4 rfl
        clear hb1
        go_wp2
        go_ret
        exact ⟨ret_bool HV.out.symm, hB1⟩
      · have HV : Hid (x = true) := by rw [Hid, ← hx, maySB, h1, h2]; rfl
        obtain ⟨p0, p1, p2⟩ := Old.len0 (l := r) (by simpa using h1)
        clear h1
        clear hx
        go_enter Try.func123, Try.ntmps123
        go_wp2_with fail
        refine (implGoodC_is kap _ bo bc b so sc s ro rc r _ true hlb hls hlr (hz.later hB0) HG.out).mono ?_
        rintro e w1 ⟨rfl, hb1⟩
        have hB1 := hB0.trans (hb1.mono hB0.size)
        have X1 := X0.out.later hb1
        have x0 := X1.c 0 rfl
        have x1 := X1.c 1 rfl
        have x2 := X1.c 2 rfl
        have x3 := X1.c 3 rfl
        have x4 := X1.c 4 rfl
        clear hb1
        go_wp2
        go_ret
        exact ⟨ret_bool HV.out.symm, hB1⟩
    · have HV : Hid (x = true) := by rw [Hid, ← hx, maySB, h1]; rfl
      obtain ⟨p0, p1, p2⟩ := Old.len1 (l := r) (by simpa using h1)
      clear h1
      clear hx
      go_enter Try.func123, Try.ntmps123
      go_wp2_with fail
      refine (implGoodC_is kap _ bo bc b so sc s ro rc r _ true hlb hls hlr (hz.later hB0) HG.out).mono ?_
      rintro e w1 ⟨rfl, hb1⟩
      have hB1 := hB0.trans (hb1.mono hB0.size)
      have X1 := X0.out.later hb1
      have x0 := X1.c 0 rfl
      have x1 := X1.c 1 rfl
      have x2 := X1.c 2 rfl
      have x3 := X1.c 3 rfl
      have x4 := X1.c 4 rfl
      clear hb1
      go_wp2
      go_ret
      exact ⟨ret_bool HV.out.symm, hB1⟩
  · have HV : Hid (x = true) := by rw [Hid, ← hx, maySB]; rfl
    clear hx
    go_enter Try.func123, Try.ntmps123
    go_wp2_with fail
    refine (implGoodC_is kap _ bo bc b so sc s ro rc r _ true hlb hls hlr (hz.later hB0) HG.out).mono ?_
    rintro e w1 ⟨rfl, hb1⟩
    have hB1 := hB0.trans (hb1.mono hB0.size)
    have X1 := X0.out.later hb1
    have x0 := X1.c 0 rfl
    have x1 := X1.c 1 rfl
    have x2 := X1.c 2 rfl
    have x3 := X1.c 3 rfl
    have x4 := X1.c 4 rfl
    clear hb1
    go_wp2
    go_ret
    exact ⟨ret_bool HV.out.symm, hB1⟩
set_option maxRecDepth 10000 in
set_option maxHeartbeats 4000000 in
theorem implMayR_is (kap : Int) (cl : Bool) (bo : Option Addr) (bc : Nat) (b : List Int) (so : Option Addr) (sc : Nat) (s : List (Int × Int × Int)) (ro : Option Addr) (rc : Nat) (r : List (Int × Int × Int)) (w : World) (x : Bool) (hlb : b.length ≤ 1048576) (hls : s.length ≤ 1048576) (hlr : r.length ≤ 1048576) (hz : InChan w.heap.size w bo b so s ro r) (hg : goodP (kap, cl, b, s, r) = true) (hx : mayRB cl b s = x) :
    Calls Try.prog 124 #[.agg #[.int .i64 kap, .bool cl, .slice bo b.length bc, .slice so s.length sc, .slice ro r.length rc]] w fun e w' => e = .returned (.bool x) ∧ Below w.heap.size w w' := by
  have hB0 := below1 w (.cells #[.int .i64 kap, .bool cl, .slice bo b.length bc, .slice so s.length sc, .slice ro r.length rc] 26)
  have X0 := hid (Bx.new (w := w) (p := w.heap.size) [.int .i64 kap, .bool cl, .slice bo b.length bc, .slice so s.length sc, .slice ro r.length rc] 26 rfl)
  have HG := hid hg
  clear hg
  rcases cl with _ | _
  · rcases h1 : decide (b.length ≠ 0) with _ | _
    · rcases h2 : decide (s.length ≠ 0) with _ | _
      · have HV : Hid (x = false) := by rw [Hid, ← hx, mayRB, h1, h2]; rfl
        obtain ⟨p0, p1, p2⟩ := Old.len0 (l := b) (by simpa using h1)
        obtain ⟨q0, q1, q2⟩ := Old.len0 (l := s) (by simpa using h2)
        clear h1 h2
        clear hx
        go_enter Try.func124, Try.ntmps124
        go_wp2_with fail
        refine (implGoodC_is kap _ bo bc b so sc s ro rc r _ true hlb hls hlr (hz.later hB0) HG.out).mono ?_
        rintro e w1 ⟨rfl, hb1⟩
        have hB1 := hB0.trans (hb1.mono hB0.size)
        have X1 := X0.out.later hb1
        have x0 := X1.c 0 rfl
        have x1 := X1.c 1 rfl
        have x2 := X1.c 2 rfl
        have x3 := X1.c 3 rfl
        have x4 := X1.c 4 rfl
        clear hb1
        go_wp2
        go_ret
        exact ⟨ret_bool HV.out.symm, hB1⟩
      · have HV : Hid (x = true) := by rw [Hid, ← hx, mayRB, h1, h2]; rfl
        obtain ⟨p0, p1, p2⟩ := Old.len0 (l := b) (by simpa using h1)
        obtain ⟨q0, q1, q2⟩ := Old.len1 (l := s) (by simpa using h2)
        clear h1 h2
        clear hx
        go_enter Try.func124, Try.ntmps124
        go_wp2_with fail
        refine (implGoodC_is kap _ bo bc b so sc s ro rc r _ true hlb hls hlr (hz.later hB0) HG.out).mono ?_
        rintro e w1 ⟨rfl, hb1⟩
        have hB1 := hB0.trans (hb1.mono hB0.size)
        have X1 := X0.out.later hb1
        have x0 := X1.c 0 rfl
        have x1 := X1.c 1 rfl
        have x2 := X1.c 2 rfl
        have x3 := X1.c 3 rfl
        have x4 := X1.c 4 rfl
        clear hb1
        go_wp2
        go_ret
        exact ⟨ret_bool HV.out.symm, hB1⟩
    · have HV : Hid (x = true) := by rw [Hid, ← hx, mayRB, h1]; rfl
      obtain ⟨p0, p1, p2⟩ := Old.len1 (l := b) (by simpa using h1)
      clear h1
      clear hx
      go_enter Try.func124, Try.ntmps124
      go_wp2_with fail
      refine (implGoodC_is kap _ bo bc b so sc s ro rc r _ true hlb hls hlr (hz.later hB0) HG.out).mono ?_
      rintro e w1 ⟨rfl, hb1⟩
      have hB1 := hB0.trans (hb1.mono hB0.size)
      have X1 := X0.out.later hb1
      have x0 := X1.c 0 rfl
      have x1 := X1.c 1 rfl
      have x2 := X1.c 2 rfl
      have x3 := X1.c 3 rfl
      have x4 := X1.c 4 rfl
      clear hb1
      go_wp2
      go_ret
      exact ⟨ret_bool HV.out.symm, hB1⟩
  · have HV : Hid (x = true) := by rw [Hid, ← hx, mayRB]; rfl
    clear hx
    go_enter Try.func124, Try.ntmps124
    go_wp2_with fail
    refine (implGoodC_is kap _ bo bc b so sc s ro rc r _ true hlb hls hlr (hz.later hB0) HG.out).mono ?_
    rintro e w1 ⟨rfl, hb1⟩
    have hB1 := hB0.trans (hb1.mono hB0.size)
    have X1 := X0.out.later hb1
    have x0 := X1.c 0 rfl
    have x1 := X1.c 1 rfl
    have x2 := X1.c 2 rfl
    have x3 := X1.c 3 rfl
    have x4 := X1.c 4 rfl
    clear hb1
    go_wp2
    go_ret
    exact ⟨ret_bool HV.out.symm, hB1⟩
end Go.Proofs.Ytlnjhajdbofhlaa
