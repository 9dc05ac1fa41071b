
/- TakeNext: what is next, and what is left. No conditions but those written. -/
import Derived.Test.YtnnlbnbamhkcaaaEi
import Derived.Test.YtnnlbnbamhkcaaaEd
import Derived.Deep.Cut
namespace Go.Proofs.Ytnnlbnbamhkcaaa
open Go.RowKit

set_option maxRecDepth 10000 in
set_option maxHeartbeats 4000000 in
theorem nextS_is (kap : Int) (cl : Bool) (bo : Option Addr) (bc : Nat) (b : List Int) (so : Option Addr) (sc : Nat) (s : List (Int × Int × Int)) (ro : Option Addr) (rc : Nat) (r : List (Int × Int × Int)) (w : World) (_hlb : b.length ≤ 1048576) (_hls : s.length ≤ 1048576) (_hlr : r.length ≤ 1048576) (hz : InBox w.heap.size w bo b so s ro r) (x : Int) (hb0 : 0 < b.length) (hx : el b 0 = x) :
    Calls Try.prog 13 #[.agg #[.int .i64 kap, .bool cl, .slice bo b.length bc, .slice so s.length sc, .slice ro r.length rc]] w fun e w' => e = .returned (.tuple #[.iface 62 (.int .i64 x), .bool true]) ∧ Below w.heap.size w w' := by
  obtain ⟨bb, off, rfl, hbb, hc⟩ := ints_at hz.1 hb0
  have hB0 := below1 w (.cells #[.int .i64 kap, .bool cl, .slice (some ⟨bb, off, none⟩) b.length bc, .slice so s.length sc, .slice ro r.length rc] 26)
  have d1 := (hB0.cell (p := ⟨bb, off + 0, none⟩) hbb).trans (hc 0 hb0)
  rw [hx, Nat.add_zero] at d1
  have h0' : decide ((0 : Int) < (b.length : Int)) = true := by simp; omega
  clear hc hx
  go_enter Try.func13, Try.ntmps13
  go_wp2
  exact bodyPost_ret (v := .tuple #[.iface 62 (.int .i64 x), .bool true]) (by simp [results, Try.results13, go_sem]) rfl ⟨rfl, hB0⟩
set_option maxRecDepth 10000 in
set_option maxHeartbeats 4000000 in
theorem nextL_is (kap : Int) (cl : Bool) (bo : Option Addr) (bc : Nat) (b : List Int) (so : Option Addr) (sc : Nat) (s : List (Int × Int × Int)) (ro : Option Addr) (rc : Nat) (r : List (Int × Int × Int)) (w : World) (_hlb : b.length ≤ 1048576) (_hls : s.length ≤ 1048576) (_hlr : r.length ≤ 1048576) (hz : InBox w.heap.size w bo b so s ro r) (x1 x2 x3 x4 : Int) (hb0 : b.length = 0) (hs0 : 0 < s.length) (hx : el s 0 = (x1, x2, x3)) (ht0 : 0 ≤ x3) (ht1 : x3 ≤ 1000) (hx4 : tryV x3 = x4) :
    Calls Try.prog 13 #[.agg #[.int .i64 kap, .bool cl, .slice bo b.length bc, .slice so s.length sc, .slice ro r.length rc]] w fun e w' => e = .returned (.tuple #[.iface 63 (.agg #[.int .i64 x1, .int .i64 x2, .int .i64 x4]), .bool true]) ∧ Below w.heap.size w w' := by
  obtain rfl : b = [] := List.length_eq_zero_iff.1 hb0
  obtain ⟨bb, off, rfl, hbb, hc⟩ := kL_at hz.2.1 hs0
  have hB0 := below1 w (.cells #[.int .i64 kap, .bool cl, .slice bo 0 bc, .slice (some ⟨bb, off, none⟩) s.length sc, .slice ro r.length rc] 26)
  have hcc := hc 0 hs0
  rw [hx] at hcc
  have d1 := (hB0.cell (p := ⟨bb, off + 0 * 3, none⟩) hbb).trans hcc.1
  have d2 := (hB0.cell (p := ⟨bb, off + 0 * 3 + 1, none⟩) hbb).trans hcc.2.1
  have d3 := (hB0.cell (p := ⟨bb, off + 0 * 3 + 2, none⟩) hbb).trans hcc.2.2
  simp only [Nat.zero_mul, Nat.add_zero] at d1 d2 d3
  have h0' : decide ((0 : Int) < (s.length : Int)) = true := by simp; omega
  clear hc hcc hx
  go_enter Try.func13, Try.ntmps13
  go_wp2_with fail
  refine (begun_is x1 x2 x3 x4 _ ht0 ht1 hx4).mono ?_
  rintro e w1 ⟨rfl, hb1⟩
  have hB1 := hB0.trans (hb1.mono hB0.size)
  go_wp2
  exact bodyPost_ret (v := .tuple #[.iface 63 (.agg #[.int .i64 x1, .int .i64 x2, .int .i64 x4]), .bool true]) (by simp [results, Try.results13, go_sem]) rfl ⟨rfl, hB1⟩
set_option maxRecDepth 10000 in
set_option maxHeartbeats 4000000 in
theorem nextN_is (kap : Int) (cl : Bool) (bo : Option Addr) (bc : Nat) (b : List Int) (so : Option Addr) (sc : Nat) (s : List (Int × Int × Int)) (ro : Option Addr) (rc : Nat) (r : List (Int × Int × Int)) (w : World) (_hlb : b.length ≤ 1048576) (_hls : s.length ≤ 1048576) (_hlr : r.length ≤ 1048576) (_hz : InBox w.heap.size w bo b so s ro r) (hb0 : b.length = 0) (hs0 : s.length = 0) :
    Calls Try.prog 13 #[.agg #[.int .i64 kap, .bool cl, .slice bo b.length bc, .slice so s.length sc, .slice ro r.length rc]] w fun e w' => e = .returned (.tuple #[.nilIface, .bool false]) ∧ Below w.heap.size w w' := by
  obtain rfl : b = [] := List.length_eq_zero_iff.1 hb0
  obtain rfl : s = [] := List.length_eq_zero_iff.1 hs0
  have hB0 := below1 w (.cells #[.int .i64 kap, .bool cl, .slice bo 0 bc, .slice so 0 sc, .slice ro r.length rc] 26)
  go_enter Try.func13, Try.ntmps13
  go_wp2
  exact bodyPost_ret (v := .tuple #[.nilIface, .bool false]) (by simp [results, Try.results13, go_sem]) rfl ⟨rfl, hB0⟩
set_option maxRecDepth 10000 in
set_option maxHeartbeats 8000000 in
theorem takenS_any (x : Int) (kap : Int) (cl : Bool) (bo : Option Addr) (bc : Nat) (b : List Int) (so : Option Addr) (sc : Nat) (s : List (Int × Int × Int)) (ro : Option Addr) (rc : Nat) (r : List (Int × Int × Int)) (w : World) (hlb : b.length ≤ 1048576) (hls : s.length ≤ 1048576) (hlr : r.length ≤ 1048576) (hz : InBox w.heap.size w bo b so s ro r) (hb0 : 0 < b.length) :
    Calls Try.prog 62 #[.int .i64 x, .agg #[.int .i64 kap, .bool cl, .slice bo b.length bc, .slice so s.length sc, .slice ro r.length rc]] w fun e w' => AnsBox w kap cl (b.drop 1) s r e w' := by
  obtain ⟨Rk, hRk⟩ : ∃ l, l = b.drop 1 := ⟨_, rfl⟩
  have HKE : Hid (Rk = keepE b 0 (List.range b.length)) := hRk.trans (keepE_zero b hb0)
  rw [← hRk]
  clear hRk hb0
  obtain ⟨w0, hw0⟩ : ∃ w0, w0 = ((w.alloc (.cells #[.int .i64 kap, .bool cl, .slice bo b.length bc, .slice so s.length sc, .slice ro r.length rc] 26)).alloc (.cells #[.int .i64 0, .bool false, .slice none 0 0, .slice none 0 0, .slice none 0 0] 26)) := ⟨_, rfl⟩
  have hB0 : Below w.heap.size w w0 := by rw [hw0]; exact Below.allocS (Below.allocS (Below.refl _ _) _) _
  have XA0 : Hid (Bx w0 (w.heap.size) [.int .i64 kap, .bool cl, .slice bo b.length bc, .slice so s.length sc, .slice ro r.length rc]) := by rw [hw0]; exact Bx.alloc (Bx.new [.int .i64 kap, .bool cl, .slice bo b.length bc, .slice so s.length sc, .slice ro r.length rc] _ rfl) _
  have XR0 : Hid (Bx w0 (w.heap.size + 1) [.int .i64 0, .bool false, .slice none 0 0, .slice none 0 0, .slice none 0 0]) := by rw [hw0]; exact Bx.new [.int .i64 0, .bool false, .slice none 0 0, .slice none 0 0, .slice none 0 0] _ (by simp)
  have H0 : Hid (w0 = ((w.alloc (.cells #[.int .i64 kap, .bool cl, .slice bo b.length bc, .slice so s.length sc, .slice ro r.length rc] 26)).alloc (.cells #[.int .i64 0, .bool false, .slice none 0 0, .slice none 0 0, .slice none 0 0] 26))) := hw0
  have hs0 : w.heap.size + 1 + 1 ≤ w0.heap.size := by rw [hw0]; simp
  clear hw0
  have hfl : ∀ (a : Option Addr) (n c : Nat) (W : World), (Instr.field 97 (.agg #[.slice a n c]) 0).run Try.prog W = .ok (.slice a n c) W := run_field97
  go_enter Try.func62, Try.ntmps62
  go_wp2_with fail
  rw [← H0.out]
  refine (copyBox_any kap cl bo bc b so sc s ro rc r w0 hlb hls hlr (hz.later hB0)).mono ?_
  rintro e w1 ⟨⟨bo1, bc1, so1, sc1, ro1, rc1, rfl, hF⟩, hb1⟩
  have hB1 := hB0.trans (hb1.mono hB0.size)
  have hs1 : w.heap.size + 1 + 1 ≤ w1.heap.size := Nat.le_trans hs0 hb1.size
  have hz1 : w0.heap.size ≤ w1.heap.size := hb1.size
  have XA1 := hid (XA0.out.later hb1)
  have XR1 := hid (XR0.out.later hb1)
  clear XA0 XR0
  have F1 := hid (hF)
  clear hb1 hF
  have a0 := XA1.out.c 0 rfl
  have af0 := XA1.out.f 0 rfl
  have a1 := XA1.out.c 1 rfl
  have af1 := XA1.out.f 1 rfl
  have a2 := XA1.out.c 2 rfl
  have af2 := XA1.out.f 2 rfl
  have a3 := XA1.out.c 3 rfl
  have af3 := XA1.out.f 3 rfl
  have a4 := XA1.out.c 4 rfl
  have af4 := XA1.out.f 4 rfl
  have az := XA1.out.size
  have r0 := XR1.out.c 0 rfl
  have rf0 := XR1.out.f 0 rfl
  have r1 := XR1.out.c 1 rfl
  have rf1 := XR1.out.f 1 rfl
  have r2 := XR1.out.c 2 rfl
  have rf2 := XR1.out.f 2 rfl
  have r3 := XR1.out.c 3 rfl
  have rf3 := XR1.out.f 3 rfl
  have r4 := XR1.out.c 4 rfl
  have rf4 := XR1.out.f 4 rfl
  have rz := XR1.out.size
  obtain ⟨w2, hV⟩ : ∃ V, V = w1.alloc (.cells #[.int .i64 kap, .bool cl, .slice bo1 b.length bc1, .slice so1 s.length sc1, .slice ro1 r.length rc1] 26) := ⟨_, rfl⟩
  have hz2 : w1.heap.size ≤ w2.heap.size := by rw [hV]; simp
  have hs2 : w.heap.size + 1 + 1 ≤ w2.heap.size := Nat.le_trans hs1 hz2
  have hB2 : Below w.heap.size w w2 := by rw [hV]; exact Below.allocS hB1 _
  have XA2 := hid (XA1.out.alloc (.cells #[.int .i64 kap, .bool cl, .slice bo1 b.length bc1, .slice so1 s.length sc1, .slice ro1 r.length rc1] 26))
  rw [← hV] at XA2
  have XR2 := hid (XR1.out.alloc (.cells #[.int .i64 kap, .bool cl, .slice bo1 b.length bc1, .slice so1 s.length sc1, .slice ro1 r.length rc1] 26))
  rw [← hV] at XR2
  have F2 := hid (F1.out.later (below1 w1 (.cells #[.int .i64 kap, .bool cl, .slice bo1 b.length bc1, .slice so1 s.length sc1, .slice ro1 r.length rc1] 26)))
  rw [← hV] at F2
  have H2 : Hid (w2 = w1.alloc (.cells #[.int .i64 kap, .bool cl, .slice bo1 b.length bc1, .slice so1 s.length sc1, .slice ro1 r.length rc1] 26)) := hV
  clear hV XA1 XR1 F1
  have XN2 : Hid (Bx w2 w1.heap.size [.int .i64 kap, .bool cl, .slice bo1 b.length bc1, .slice so1 s.length sc1, .slice ro1 r.length rc1]) := by rw [H2.out]; exact Bx.new [.int .i64 kap, .bool cl, .slice bo1 b.length bc1, .slice so1 s.length sc1, .slice ro1 r.length rc1] _ rfl
  have hy2 : w1.heap.size < w2.heap.size := XN2.out.size
  go_wp2_with fail
  clear a0 af0 a1 af1 a2 af2 a3 af3 a4 af4 az r0 rf0 r1 rf1 r2 rf2 r3 rf3 r4 rf4 rz
  rw [← H2.out]
  refine (queueOfI_any bo bc b w2 hlb (hz.1.later hB2)).mono ?_
  rintro e w3 ⟨⟨qo, rfl, hQ⟩, hb3⟩
  have hB3 := hB2.trans (hb3.mono hB2.size)
  have hs3 : w.heap.size + 1 + 1 ≤ w3.heap.size := Nat.le_trans hs2 hb3.size
  have hz3 : w2.heap.size ≤ w3.heap.size := hb3.size
  have XA3 := hid (XA2.out.later hb3)
  have XR3 := hid (XR2.out.later hb3)
  have XN3 := hid (XN2.out.later hb3)
  have F3 := hid (F2.out.later hb3)
  clear XA2 XR2 XN2 F2
  have Q3 := hid (hQ)
  clear hb3 hQ
  have a0 := XA3.out.c 0 rfl
  have af0 := XA3.out.f 0 rfl
  have a1 := XA3.out.c 1 rfl
  have af1 := XA3.out.f 1 rfl
  have a2 := XA3.out.c 2 rfl
  have af2 := XA3.out.f 2 rfl
  have a3 := XA3.out.c 3 rfl
  have af3 := XA3.out.f 3 rfl
  have a4 := XA3.out.c 4 rfl
  have af4 := XA3.out.f 4 rfl
  have az := XA3.out.size
  have r0 := XR3.out.c 0 rfl
  have rf0 := XR3.out.f 0 rfl
  have r1 := XR3.out.c 1 rfl
  have rf1 := XR3.out.f 1 rfl
  have r2 := XR3.out.c 2 rfl
  have rf2 := XR3.out.f 2 rfl
  have r3 := XR3.out.c 3 rfl
  have rf3 := XR3.out.f 3 rfl
  have r4 := XR3.out.c 4 rfl
  have rf4 := XR3.out.f 4 rfl
  have rz := XR3.out.size
  have n0 := XN3.out.c 0 rfl
  have nf0 := XN3.out.f 0 rfl
  have n1 := XN3.out.c 1 rfl
  have nf1 := XN3.out.f 1 rfl
  have n2 := XN3.out.c 2 rfl
  have nf2 := XN3.out.f 2 rfl
  have n3 := XN3.out.c 3 rfl
  have nf3 := XN3.out.f 3 rfl
  have n4 := XN3.out.c 4 rfl
  have nf4 := XN3.out.f 4 rfl
  have nz := XN3.out.size
  go_wp2_with fail
  clear a0 af0 a1 af1 a2 af2 a3 af3 a4 af4 az r0 rf0 r1 rf1 r2 rf2 r3 rf3 r4 rf4 rz n0 nf0 n1 nf1 n2 nf2 n3 nf3 n4 nf4 nz
  refine (withoutI_any qo b.length b 0 w3 hlb Q3.out.in Rk HKE.out).mono ?_
  rintro e w4 ⟨⟨po, pc, rfl, hQ⟩, hb4⟩
  have hB4 := hB3.trans (hb4.mono hB3.size)
  have hs4 : w.heap.size + 1 + 1 ≤ w4.heap.size := Nat.le_trans hs3 hb4.size
  have hz4 : w3.heap.size ≤ w4.heap.size := hb4.size
  have XA4 := hid (XA3.out.later hb4)
  have XR4 := hid (XR3.out.later hb4)
  have XN4 := hid (XN3.out.later hb4)
  have F4 := hid (F3.out.later hb4)
  have Q4 := hid (Q3.out.later hb4)
  clear XA3 XR3 XN3 F3 Q3
  have K4 := hid (hQ)
  clear hb4 hQ
  have a0 := XA4.out.c 0 rfl
  have af0 := XA4.out.f 0 rfl
  have a1 := XA4.out.c 1 rfl
  have af1 := XA4.out.f 1 rfl
  have a2 := XA4.out.c 2 rfl
  have af2 := XA4.out.f 2 rfl
  have a3 := XA4.out.c 3 rfl
  have af3 := XA4.out.f 3 rfl
  have a4 := XA4.out.c 4 rfl
  have af4 := XA4.out.f 4 rfl
  have az := XA4.out.size
  have r0 := XR4.out.c 0 rfl
  have rf0 := XR4.out.f 0 rfl
  have r1 := XR4.out.c 1 rfl
  have rf1 := XR4.out.f 1 rfl
  have r2 := XR4.out.c 2 rfl
  have rf2 := XR4.out.f 2 rfl
  have r3 := XR4.out.c 3 rfl
  have rf3 := XR4.out.f 3 rfl
  have r4 := XR4.out.c 4 rfl
  have rf4 := XR4.out.f 4 rfl
  have rz := XR4.out.size
  have n0 := XN4.out.c 0 rfl
  have nf0 := XN4.out.f 0 rfl
  have n1 := XN4.out.c 1 rfl
  have nf1 := XN4.out.f 1 rfl
  have n2 := XN4.out.c 2 rfl
  have nf2 := XN4.out.f 2 rfl
  have n3 := XN4.out.c 3 rfl
  have nf3 := XN4.out.f 3 rfl
  have n4 := XN4.out.c 4 rfl
  have nf4 := XN4.out.f 4 rfl
  have nz := XN4.out.size
  go_upto_region 3 with fail
  clear a0 af0 a1 af1 a2 af2 a3 af3 a4 af4 az r0 rf0 r1 rf1 r2 rf2 r3 rf3 r4 rf4 rz n0 nf0 n1 nf1 n2 nf2 n3 nf3 n4 nf4 nz
  obtain ⟨w5, hV⟩ : ∃ V, V = (w4.setCell ⟨w1.heap.size, 2, none⟩ (.slice po Rk.length pc)) := ⟨_, rfl⟩
  have hz5 : w4.heap.size ≤ w5.heap.size := by rw [hV]; simp [World.setCell]
  have hs5 : w.heap.size + 1 + 1 ≤ w5.heap.size := Nat.le_trans hs4 hz5
  have hB5 : Below w.heap.size w w5 := by rw [hV]; exact (hB4.setCell (p := ⟨w1.heap.size, 2, none⟩) (by dsimp only; omega) _)
  have XA5 := hid ((XA4.out.other (a := ⟨w1.heap.size, 2, none⟩) (by dsimp only; omega) (.slice po Rk.length pc)))
  rw [← hV] at XA5
  have XR5 := hid ((XR4.out.other (a := ⟨w1.heap.size, 2, none⟩) (by dsimp only; omega) (.slice po Rk.length pc)))
  rw [← hV] at XR5
  have XN5 := hid ((XN4.out.set 2 (.slice po Rk.length pc)))
  rw [← hV] at XN5
  have F5 := hid ((F4.out.setOff (a := ⟨w1.heap.size, 2, none⟩) (by dsimp only; omega) (.slice po Rk.length pc)))
  rw [← hV] at F5
  have Q5 := hid ((Q4.out.setOff (a := ⟨w1.heap.size, 2, none⟩) (by dsimp only; omega) (.slice po Rk.length pc)))
  rw [← hV] at Q5
  have K5 := hid ((K4.out.setOff (a := ⟨w1.heap.size, 2, none⟩) (by dsimp only; omega) (.slice po Rk.length pc)))
  rw [← hV] at K5
  have H5 : Hid (w5 = (w4.setCell ⟨w1.heap.size, 2, none⟩ (.slice po Rk.length pc))) := hV
  clear hV XA4 XR4 XN4 F4 Q4 K4
  rw [← H5.out]
  clear H5
  have a0 := XA5.out.c 0 rfl
  have af0 := XA5.out.f 0 rfl
  have a1 := XA5.out.c 1 rfl
  have af1 := XA5.out.f 1 rfl
  have a2 := XA5.out.c 2 rfl
  have af2 := XA5.out.f 2 rfl
  have a3 := XA5.out.c 3 rfl
  have af3 := XA5.out.f 3 rfl
  have a4 := XA5.out.c 4 rfl
  have af4 := XA5.out.f 4 rfl
  have az := XA5.out.size
  have r0 := XR5.out.c 0 rfl
  have rf0 := XR5.out.f 0 rfl
  have r1 := XR5.out.c 1 rfl
  have rf1 := XR5.out.f 1 rfl
  have r2 := XR5.out.c 2 rfl
  have rf2 := XR5.out.f 2 rfl
  have r3 := XR5.out.c 3 rfl
  have rf3 := XR5.out.f 3 rfl
  have r4 := XR5.out.c 4 rfl
  have rf4 := XR5.out.f 4 rfl
  have rz := XR5.out.size
  have n0 := XN5.out.c 0 rfl
  have nf0 := XN5.out.f 0 rfl
  have n1 := XN5.out.c 1 rfl
  have nf1 := XN5.out.f 1 rfl
  have n2 := XN5.out.c 2 rfl
  have nf2 := XN5.out.f 2 rfl
  have n3 := XN5.out.c 3 rfl
  have nf3 := XN5.out.f 3 rfl
  have n4 := XN5.out.c 4 rfl
  have nf4 := XN5.out.f 4 rfl
  have nz := XN5.out.size
  go_wp2
  refine bodyPost_ret (v := .agg #[.int .i64 kap, .bool cl, .slice po Rk.length pc, .slice so1 s.length sc1, .slice ro1 r.length rc1]) (by simp [results, Try.results62, go_sem, r0, r1, r2, r3, r4]) rfl ?_
  exact ⟨⟨po, _, _, _, _, _, rfl, (((((((K5.out.setOff (a := ⟨w.heap.size + 1, 0, none⟩) (by dsimp only; omega) _).setOff (a := ⟨w.heap.size + 1, 1, none⟩) (by dsimp only; omega) _).setOff (a := ⟨w.heap.size + 1, 2, none⟩) (by dsimp only; omega) _).setOff (a := ⟨w.heap.size + 1, 3, none⟩) (by dsimp only; omega) _).setOff (a := ⟨w.heap.size + 1, 4, none⟩) (by dsimp only; omega) _).wide (by omega) (Nat.le_refl _)).low (Nat.le_refl _)), (((((((F5.out.setOff (a := ⟨w.heap.size + 1, 0, none⟩) (by dsimp only; omega) _).setOff (a := ⟨w.heap.size + 1, 1, none⟩) (by dsimp only; omega) _).setOff (a := ⟨w.heap.size + 1, 2, none⟩) (by dsimp only; omega) _).setOff (a := ⟨w.heap.size + 1, 3, none⟩) (by dsimp only; omega) _).setOff (a := ⟨w.heap.size + 1, 4, none⟩) (by dsimp only; omega) _).2.1.wide (by omega) (Nat.le_refl _)).low (Nat.le_refl _)), (((((((F5.out.setOff (a := ⟨w.heap.size + 1, 0, none⟩) (by dsimp only; omega) _).setOff (a := ⟨w.heap.size + 1, 1, none⟩) (by dsimp only; omega) _).setOff (a := ⟨w.heap.size + 1, 2, none⟩) (by dsimp only; omega) _).setOff (a := ⟨w.heap.size + 1, 3, none⟩) (by dsimp only; omega) _).setOff (a := ⟨w.heap.size + 1, 4, none⟩) (by dsimp only; omega) _).2.2.1.wide (by omega) (Nat.le_refl _)).low (Nat.le_refl _)), F5.out.2.2.2⟩, (((((hB5.setCell (p := ⟨w.heap.size + 1, 0, none⟩) (by dsimp only; omega) _).setCell (p := ⟨w.heap.size + 1, 1, none⟩) (by dsimp only; omega) _).setCell (p := ⟨w.heap.size + 1, 2, none⟩) (by dsimp only; omega) _).setCell (p := ⟨w.heap.size + 1, 3, none⟩) (by dsimp only; omega) _).setCell (p := ⟨w.heap.size + 1, 4, none⟩) (by dsimp only; omega) _)⟩
set_option maxRecDepth 10000 in
set_option maxHeartbeats 8000000 in
theorem takenL_any (iv jv kv : Int) (kap : Int) (cl : Bool) (bo : Option Addr) (bc : Nat) (b : List Int) (so : Option Addr) (sc : Nat) (s : List (Int × Int × Int)) (ro : Option Addr) (rc : Nat) (r : List (Int × Int × Int)) (w : World) (hlb : b.length ≤ 1048576) (hls : s.length ≤ 1048576) (hlr : r.length ≤ 1048576) (hz : InBox w.heap.size w bo b so s ro r) (hs0 : 0 < s.length) :
    Calls Try.prog 69 #[.agg #[.int .i64 iv, .int .i64 jv, .int .i64 kv], .agg #[.int .i64 kap, .bool cl, .slice bo b.length bc, .slice so s.length sc, .slice ro r.length rc]] w fun e w' => AnsBox w kap cl b (s.drop 1) (r ++ [(iv, jv, kv)]) e w' := by
  obtain ⟨Rk, hRk⟩ : ∃ l, l = s.drop 1 := ⟨_, rfl⟩
  have HKE : Hid (Rk = keepE s 0 (List.range s.length)) := hRk.trans (keepE_zero s hs0)
  rw [← hRk]
  clear hRk hs0
  obtain ⟨w0, hw0⟩ : ∃ w0, w0 = (((w.alloc (.cells #[.int .i64 iv, .int .i64 jv, .int .i64 kv] 63)).alloc (.cells #[.int .i64 kap, .bool cl, .slice bo b.length bc, .slice so s.length sc, .slice ro r.length rc] 26)).alloc (.cells #[.int .i64 0, .bool false, .slice none 0 0, .slice none 0 0, .slice none 0 0] 26)) := ⟨_, rfl⟩
  have hB0 : Below w.heap.size w w0 := by rw [hw0]; exact Below.allocS (Below.allocS (Below.allocS (Below.refl _ _) _) _) _
  have XL0 : Hid (Bx w0 (w.heap.size) [.int .i64 iv, .int .i64 jv, .int .i64 kv]) := by rw [hw0]; exact Bx.alloc (Bx.alloc (Bx.new [.int .i64 iv, .int .i64 jv, .int .i64 kv] _ rfl) _) _
  have XA0 : Hid (Bx w0 (w.heap.size + 1) [.int .i64 kap, .bool cl, .slice bo b.length bc, .slice so s.length sc, .slice ro r.length rc]) := by rw [hw0]; exact Bx.alloc (Bx.new [.int .i64 kap, .bool cl, .slice bo b.length bc, .slice so s.length sc, .slice ro r.length rc] _ (by simp)) _
  have XR0 : Hid (Bx w0 (w.heap.size + 1 + 1) [.int .i64 0, .bool false, .slice none 0 0, .slice none 0 0, .slice none 0 0]) := by rw [hw0]; exact Bx.new [.int .i64 0, .bool false, .slice none 0 0, .slice none 0 0, .slice none 0 0] _ (by simp)
  have H0 : Hid (w0 = (((w.alloc (.cells #[.int .i64 iv, .int .i64 jv, .int .i64 kv] 63)).alloc (.cells #[.int .i64 kap, .bool cl, .slice bo b.length bc, .slice so s.length sc, .slice ro r.length rc] 26)).alloc (.cells #[.int .i64 0, .bool false, .slice none 0 0, .slice none 0 0, .slice none 0 0] 26))) := hw0
  have hs0 : w.heap.size + 1 + 1 + 1 ≤ w0.heap.size := by rw [hw0]; simp
  clear hw0
  have hfl : ∀ (a : Option Addr) (n c : Nat) (W : World), (Instr.field 54 (.agg #[.slice a n c]) 0).run Try.prog W = .ok (.slice a n c) W := run_field54
  go_enter Try.func69, Try.ntmps69
  go_wp2_with fail
  rw [← H0.out]
  refine (copyBox_any kap cl bo bc b so sc s ro rc r w0 hlb hls hlr (hz.later hB0)).mono ?_
  rintro e w1 ⟨⟨bo1, bc1, so1, sc1, ro1, rc1, rfl, hF⟩, hb1⟩
  have hB1 := hB0.trans (hb1.mono hB0.size)
  have hs1 : w.heap.size + 1 + 1 + 1 ≤ w1.heap.size := Nat.le_trans hs0 hb1.size
  have hz1 : w0.heap.size ≤ w1.heap.size := hb1.size
  have XL1 := hid (XL0.out.later hb1)
  have XA1 := hid (XA0.out.later hb1)
  have XR1 := hid (XR0.out.later hb1)
  clear XL0 XA0 XR0
  have F1 := hid (hF)
  clear hb1 hF
  have l0 := XL1.out.c 0 rfl
  have lf0 := XL1.out.f 0 rfl
  have l1 := XL1.out.c 1 rfl
  have lf1 := XL1.out.f 1 rfl
  have l2 := XL1.out.c 2 rfl
  have lf2 := XL1.out.f 2 rfl
  have lz := XL1.out.size
  have a0 := XA1.out.c 0 rfl
  have af0 := XA1.out.f 0 rfl
  have a1 := XA1.out.c 1 rfl
  have af1 := XA1.out.f 1 rfl
  have a2 := XA1.out.c 2 rfl
  have af2 := XA1.out.f 2 rfl
  have a3 := XA1.out.c 3 rfl
  have af3 := XA1.out.f 3 rfl
  have a4 := XA1.out.c 4 rfl
  have af4 := XA1.out.f 4 rfl
  have az := XA1.out.size
  have r0 := XR1.out.c 0 rfl
  have rf0 := XR1.out.f 0 rfl
  have r1 := XR1.out.c 1 rfl
  have rf1 := XR1.out.f 1 rfl
  have r2 := XR1.out.c 2 rfl
  have rf2 := XR1.out.f 2 rfl
  have r3 := XR1.out.c 3 rfl
  have rf3 := XR1.out.f 3 rfl
  have r4 := XR1.out.c 4 rfl
  have rf4 := XR1.out.f 4 rfl
  have rz := XR1.out.size
  obtain ⟨w2, hV⟩ : ∃ V, V = w1.alloc (.cells #[.int .i64 kap, .bool cl, .slice bo1 b.length bc1, .slice so1 s.length sc1, .slice ro1 r.length rc1] 26) := ⟨_, rfl⟩
  have hz2 : w1.heap.size ≤ w2.heap.size := by rw [hV]; simp
  have hs2 : w.heap.size + 1 + 1 + 1 ≤ w2.heap.size := Nat.le_trans hs1 hz2
  have hB2 : Below w.heap.size w w2 := by rw [hV]; exact Below.allocS hB1 _
  have XL2 := hid (XL1.out.alloc (.cells #[.int .i64 kap, .bool cl, .slice bo1 b.length bc1, .slice so1 s.length sc1, .slice ro1 r.length rc1] 26))
  rw [← hV] at XL2
  have XA2 := hid (XA1.out.alloc (.cells #[.int .i64 kap, .bool cl, .slice bo1 b.length bc1, .slice so1 s.length sc1, .slice ro1 r.length rc1] 26))
  rw [← hV] at XA2
  have XR2 := hid (XR1.out.alloc (.cells #[.int .i64 kap, .bool cl, .slice bo1 b.length bc1, .slice so1 s.length sc1, .slice ro1 r.length rc1] 26))
  rw [← hV] at XR2
  have F2 := hid (F1.out.later (below1 w1 (.cells #[.int .i64 kap, .bool cl, .slice bo1 b.length bc1, .slice so1 s.length sc1, .slice ro1 r.length rc1] 26)))
  rw [← hV] at F2
  have H2 : Hid (w2 = w1.alloc (.cells #[.int .i64 kap, .bool cl, .slice bo1 b.length bc1, .slice so1 s.length sc1, .slice ro1 r.length rc1] 26)) := hV
  clear hV XL1 XA1 XR1 F1
  have XN2 : Hid (Bx w2 w1.heap.size [.int .i64 kap, .bool cl, .slice bo1 b.length bc1, .slice so1 s.length sc1, .slice ro1 r.length rc1]) := by rw [H2.out]; exact Bx.new [.int .i64 kap, .bool cl, .slice bo1 b.length bc1, .slice so1 s.length sc1, .slice ro1 r.length rc1] _ rfl
  have hy2 : w1.heap.size < w2.heap.size := XN2.out.size
  go_wp2_with fail
  clear l0 lf0 l1 lf1 l2 lf2 lz a0 af0 a1 af1 a2 af2 a3 af3 a4 af4 az r0 rf0 r1 rf1 r2 rf2 r3 rf3 r4 rf4 rz
  rw [← H2.out]
  refine (queueOfL_any so sc s w2 hls (hz.2.1.later hB2)).mono ?_
  rintro e w3 ⟨⟨qo, rfl, hQ⟩, hb3⟩
  have hB3 := hB2.trans (hb3.mono hB2.size)
  have hs3 : w.heap.size + 1 + 1 + 1 ≤ w3.heap.size := Nat.le_trans hs2 hb3.size
  have hz3 : w2.heap.size ≤ w3.heap.size := hb3.size
  have XL3 := hid (XL2.out.later hb3)
  have XA3 := hid (XA2.out.later hb3)
  have XR3 := hid (XR2.out.later hb3)
  have XN3 := hid (XN2.out.later hb3)
  have F3 := hid (F2.out.later hb3)
  clear XL2 XA2 XR2 XN2 F2
  have Q3 := hid (hQ)
  clear hb3 hQ
  have l0 := XL3.out.c 0 rfl
  have lf0 := XL3.out.f 0 rfl
  have l1 := XL3.out.c 1 rfl
  have lf1 := XL3.out.f 1 rfl
  have l2 := XL3.out.c 2 rfl
  have lf2 := XL3.out.f 2 rfl
  have lz := XL3.out.size
  have a0 := XA3.out.c 0 rfl
  have af0 := XA3.out.f 0 rfl
  have a1 := XA3.out.c 1 rfl
  have af1 := XA3.out.f 1 rfl
  have a2 := XA3.out.c 2 rfl
  have af2 := XA3.out.f 2 rfl
  have a3 := XA3.out.c 3 rfl
  have af3 := XA3.out.f 3 rfl
  have a4 := XA3.out.c 4 rfl
  have af4 := XA3.out.f 4 rfl
  have az := XA3.out.size
  have r0 := XR3.out.c 0 rfl
  have rf0 := XR3.out.f 0 rfl
  have r1 := XR3.out.c 1 rfl
  have rf1 := XR3.out.f 1 rfl
  have r2 := XR3.out.c 2 rfl
  have rf2 := XR3.out.f 2 rfl
  have r3 := XR3.out.c 3 rfl
  have rf3 := XR3.out.f 3 rfl
  have r4 := XR3.out.c 4 rfl
  have rf4 := XR3.out.f 4 rfl
  have rz := XR3.out.size
  have n0 := XN3.out.c 0 rfl
  have nf0 := XN3.out.f 0 rfl
  have n1 := XN3.out.c 1 rfl
  have nf1 := XN3.out.f 1 rfl
  have n2 := XN3.out.c 2 rfl
  have nf2 := XN3.out.f 2 rfl
  have n3 := XN3.out.c 3 rfl
  have nf3 := XN3.out.f 3 rfl
  have n4 := XN3.out.c 4 rfl
  have nf4 := XN3.out.f 4 rfl
  have nz := XN3.out.size
  go_wp2_with fail
  clear l0 lf0 l1 lf1 l2 lf2 lz a0 af0 a1 af1 a2 af2 a3 af3 a4 af4 az r0 rf0 r1 rf1 r2 rf2 r3 rf3 r4 rf4 rz n0 nf0 n1 nf1 n2 nf2 n3 nf3 n4 nf4 nz
  refine (withoutL_any qo s.length s 0 w3 hls Q3.out.in Rk HKE.out).mono ?_
  rintro e w4 ⟨⟨po, pc, rfl, hQ⟩, hb4⟩
  have hB4 := hB3.trans (hb4.mono hB3.size)
  have hs4 : w.heap.size + 1 + 1 + 1 ≤ w4.heap.size := Nat.le_trans hs3 hb4.size
  have hz4 : w3.heap.size ≤ w4.heap.size := hb4.size
  have XL4 := hid (XL3.out.later hb4)
  have XA4 := hid (XA3.out.later hb4)
  have XR4 := hid (XR3.out.later hb4)
  have XN4 := hid (XN3.out.later hb4)
  have F4 := hid (F3.out.later hb4)
  have Q4 := hid (Q3.out.later hb4)
  clear XL3 XA3 XR3 XN3 F3 Q3
  have K4 := hid (hQ)
  clear hb4 hQ
  have l0 := XL4.out.c 0 rfl
  have lf0 := XL4.out.f 0 rfl
  have l1 := XL4.out.c 1 rfl
  have lf1 := XL4.out.f 1 rfl
  have l2 := XL4.out.c 2 rfl
  have lf2 := XL4.out.f 2 rfl
  have lz := XL4.out.size
  have a0 := XA4.out.c 0 rfl
  have af0 := XA4.out.f 0 rfl
  have a1 := XA4.out.c 1 rfl
  have af1 := XA4.out.f 1 rfl
  have a2 := XA4.out.c 2 rfl
  have af2 := XA4.out.f 2 rfl
  have a3 := XA4.out.c 3 rfl
  have af3 := XA4.out.f 3 rfl
  have a4 := XA4.out.c 4 rfl
  have af4 := XA4.out.f 4 rfl
  have az := XA4.out.size
  have r0 := XR4.out.c 0 rfl
  have rf0 := XR4.out.f 0 rfl
  have r1 := XR4.out.c 1 rfl
  have rf1 := XR4.out.f 1 rfl
  have r2 := XR4.out.c 2 rfl
  have rf2 := XR4.out.f 2 rfl
  have r3 := XR4.out.c 3 rfl
  have rf3 := XR4.out.f 3 rfl
  have r4 := XR4.out.c 4 rfl
  have rf4 := XR4.out.f 4 rfl
  have rz := XR4.out.size
  have n0 := XN4.out.c 0 rfl
  have nf0 := XN4.out.f 0 rfl
  have n1 := XN4.out.c 1 rfl
  have nf1 := XN4.out.f 1 rfl
  have n2 := XN4.out.c 2 rfl
  have nf2 := XN4.out.f 2 rfl
  have n3 := XN4.out.c 3 rfl
  have nf3 := XN4.out.f 3 rfl
  have n4 := XN4.out.c 4 rfl
  have nf4 := XN4.out.f 4 rfl
  have nz := XN4.out.size
  go_upto_region 3 with fail
  clear l0 lf0 l1 lf1 l2 lf2 lz a0 af0 a1 af1 a2 af2 a3 af3 a4 af4 az r0 rf0 r1 rf1 r2 rf2 r3 rf3 r4 rf4 rz n0 nf0 n1 nf1 n2 nf2 n3 nf3 n4 nf4 nz
  obtain ⟨w5, hV⟩ : ∃ V, V = (w4.setCell ⟨w1.heap.size, 3, none⟩ (.slice po Rk.length pc)) := ⟨_, rfl⟩
  have hz5 : w4.heap.size ≤ w5.heap.size := by rw [hV]; simp [World.setCell]
  have hs5 : w.heap.size + 1 + 1 + 1 ≤ w5.heap.size := Nat.le_trans hs4 hz5
  have hB5 : Below w.heap.size w w5 := by rw [hV]; exact (hB4.setCell (p := ⟨w1.heap.size, 3, none⟩) (by dsimp only; omega) _)
  have XL5 := hid ((XL4.out.other (a := ⟨w1.heap.size, 3, none⟩) (by dsimp only; omega) (.slice po Rk.length pc)))
  rw [← hV] at XL5
  have XA5 := hid ((XA4.out.other (a := ⟨w1.heap.size, 3, none⟩) (by dsimp only; omega) (.slice po Rk.length pc)))
  rw [← hV] at XA5
  have XR5 := hid ((XR4.out.other (a := ⟨w1.heap.size, 3, none⟩) (by dsimp only; omega) (.slice po Rk.length pc)))
  rw [← hV] at XR5
  have XN5 := hid ((XN4.out.set 3 (.slice po Rk.length pc)))
  rw [← hV] at XN5
  have F5 := hid ((F4.out.setOff (a := ⟨w1.heap.size, 3, none⟩) (by dsimp only; omega) (.slice po Rk.length pc)))
  rw [← hV] at F5
  have Q5 := hid ((Q4.out.setOff (a := ⟨w1.heap.size, 3, none⟩) (by dsimp only; omega) (.slice po Rk.length pc)))
  rw [← hV] at Q5
  have K5 := hid ((K4.out.setOff (a := ⟨w1.heap.size, 3, none⟩) (by dsimp only; omega) (.slice po Rk.length pc)))
  rw [← hV] at K5
  have H5 : Hid (w5 = (w4.setCell ⟨w1.heap.size, 3, none⟩ (.slice po Rk.length pc))) := hV
  clear hV XL4 XA4 XR4 XN4 F4 Q4 K4
  rw [← H5.out]
  clear H5
  have l0 := XL5.out.c 0 rfl
  have lf0 := XL5.out.f 0 rfl
  have l1 := XL5.out.c 1 rfl
  have lf1 := XL5.out.f 1 rfl
  have l2 := XL5.out.c 2 rfl
  have lf2 := XL5.out.f 2 rfl
  have lz := XL5.out.size
  have a0 := XA5.out.c 0 rfl
  have af0 := XA5.out.f 0 rfl
  have a1 := XA5.out.c 1 rfl
  have af1 := XA5.out.f 1 rfl
  have a2 := XA5.out.c 2 rfl
  have af2 := XA5.out.f 2 rfl
  have a3 := XA5.out.c 3 rfl
  have af3 := XA5.out.f 3 rfl
  have a4 := XA5.out.c 4 rfl
  have af4 := XA5.out.f 4 rfl
  have az := XA5.out.size
  have r0 := XR5.out.c 0 rfl
  have rf0 := XR5.out.f 0 rfl
  have r1 := XR5.out.c 1 rfl
  have rf1 := XR5.out.f 1 rfl
  have r2 := XR5.out.c 2 rfl
  have rf2 := XR5.out.f 2 rfl
  have r3 := XR5.out.c 3 rfl
  have rf3 := XR5.out.f 3 rfl
  have r4 := XR5.out.c 4 rfl
  have rf4 := XR5.out.f 4 rfl
  have rz := XR5.out.size
  have n0 := XN5.out.c 0 rfl
  have nf0 := XN5.out.f 0 rfl
  have n1 := XN5.out.c 1 rfl
  have nf1 := XN5.out.f 1 rfl
  have n2 := XN5.out.c 2 rfl
  have nf2 := XN5.out.f 2 rfl
  have n3 := XN5.out.c 3 rfl
  have nf3 := XN5.out.f 3 rfl
  have n4 := XN5.out.c 4 rfl
  have nf4 := XN5.out.f 4 rfl
  have nz := XN5.out.size
  go_wp2
  have PD : w5.drew.cell? ⟨w.heap.size + 1, 4, none⟩ = some (.slice ro r.length rc) ∧ w5.drew.cell? ⟨w.heap.size, 0, none⟩ = some (.int .i64 iv) ∧ w5.drew.cell? ⟨w.heap.size, 1, none⟩ = some (.int .i64 jv) ∧ w5.drew.cell? ⟨w.heap.size, 2, none⟩ = some (.int .i64 kv) := ⟨a4, l0, l1, l2⟩
  go_region_held3 (fun Y => Y.cell? ⟨w.heap.size + 1, 4, none⟩ = some (.slice ro r.length rc) ∧ Y.cell? ⟨w.heap.size, 0, none⟩ = some (.int .i64 iv) ∧ Y.cell? ⟨w.heap.size, 1, none⟩ = some (.int .i64 jv) ∧ Y.cell? ⟨w.heap.size, 2, none⟩ = some (.int .i64 kv))
    (first | ((refine ⟨?_, ?_, ?_, ?_⟩ <;> (rw [World.cell?_setCell_other _ _ _ _ (by simp <;> omega)])); with_reducible exact P7.1; with_reducible exact P7.2.1; with_reducible exact P7.2.2.1; with_reducible exact P7.2.2.2) | (with_reducible exact ⟨a4, l0, l1, l2⟩) | (with_reducible exact PD) | (with_reducible exact P6) | (with_reducible exact P7) | exact ⟨a4, l0, l1, l2⟩)
    (first
      | (go_at_call 70; refine (withL_any qo2 r.length r iv jv kv w6 hlr (by exact Q26.out.in)).mono ?_; rintro e w7 ⟨⟨po2, rfl, hQ⟩, hy7⟩; have hb7 : Below w6.heap.size w6 w7 := hy7; have hB7 : Below w.heap.size w w7 := hB6.trans (hb7.mono hB6.size); have hs7 : w.heap.size + 1 + 1 + 1 ≤ w7.heap.size := Nat.le_trans hs6 hb7.size; have hz7 : w6.heap.size ≤ w7.heap.size := hb7.size; have XL7 := hid (XL6.out.later hb7); have XA7 := hid (XA6.out.later hb7); have XR7 := hid (XR6.out.later hb7); have XN7 := hid (XN6.out.later hb7); have F7 := hid (F6.out.later hb7); have Q7 := hid (Q6.out.later hb7); have K7 := hid (K6.out.later hb7); have Q27 := hid (Q26.out.later hb7); have K27 := hid (hQ); have P7 := (⟨XA7.out.c 4 rfl, XL7.out.c 0 rfl, XL7.out.c 1 rfl, XL7.out.c 2 rfl⟩ : w7.cell? ⟨w.heap.size + 1, 4, none⟩ = some (.slice ro r.length rc) ∧ w7.cell? ⟨w.heap.size, 0, none⟩ = some (.int .i64 iv) ∧ w7.cell? ⟨w.heap.size, 1, none⟩ = some (.int .i64 jv) ∧ w7.cell? ⟨w.heap.size, 2, none⟩ = some (.int .i64 kv)); have lg0 := XL7.out.c 0 rfl; have lh0 := XL7.out.f 0 rfl; have lg1 := XL7.out.c 1 rfl; have lh1 := XL7.out.f 1 rfl; have lg2 := XL7.out.c 2 rfl; have lh2 := XL7.out.f 2 rfl; have ag0 := XA7.out.c 0 rfl; have ah0 := XA7.out.f 0 rfl; have ag1 := XA7.out.c 1 rfl; have ah1 := XA7.out.f 1 rfl; have ag2 := XA7.out.c 2 rfl; have ah2 := XA7.out.f 2 rfl; have ag3 := XA7.out.c 3 rfl; have ah3 := XA7.out.f 3 rfl; have ag4 := XA7.out.c 4 rfl; have ah4 := XA7.out.f 4 rfl; have rg0 := XR7.out.c 0 rfl; have rh0 := XR7.out.f 0 rfl; have rg1 := XR7.out.c 1 rfl; have rh1 := XR7.out.f 1 rfl; have rg2 := XR7.out.c 2 rfl; have rh2 := XR7.out.f 2 rfl; have rg3 := XR7.out.c 3 rfl; have rh3 := XR7.out.f 3 rfl; have rg4 := XR7.out.c 4 rfl; have rh4 := XR7.out.f 4 rfl; have ng0 := XN7.out.c 0 rfl; have nh0 := XN7.out.f 0 rfl; have ng1 := XN7.out.c 1 rfl; have nh1 := XN7.out.f 1 rfl; have ng2 := XN7.out.c 2 rfl; have nh2 := XN7.out.f 2 rfl; have ng3 := XN7.out.c 3 rfl; have nh3 := XN7.out.f 3 rfl; have ng4 := XN7.out.c 4 rfl; have nh4 := XN7.out.f 4 rfl; clear hy7 hb7 hQ)
      | (go_at_call 24; refine (queueOfL_any ro rc r _ hlr (by exact hz.2.2.later hB5.drew)).mono ?_; rintro e w6 ⟨⟨qo2, rfl, hQ⟩, hy6⟩; have hb6 : Below w5.heap.size w5 w6 := (Below.refl w5.heap.size w5).drew.trans hy6; have hB6 : Below w.heap.size w w6 := hB5.trans (hb6.mono hB5.size); have hs6 : w.heap.size + 1 + 1 + 1 ≤ w6.heap.size := Nat.le_trans hs5 hb6.size; have hz6 : w5.heap.size ≤ w6.heap.size := hb6.size; have XL6 := hid (XL5.out.later hb6); have XA6 := hid (XA5.out.later hb6); have XR6 := hid (XR5.out.later hb6); have XN6 := hid (XN5.out.later hb6); have F6 := hid (F5.out.later hb6); have Q6 := hid (Q5.out.later hb6); have K6 := hid (K5.out.later hb6); simp only [World.size_drew] at hQ; have Q26 := hid (hQ); have P6 := (⟨XA6.out.c 4 rfl, XL6.out.c 0 rfl, XL6.out.c 1 rfl, XL6.out.c 2 rfl⟩ : w6.cell? ⟨w.heap.size + 1, 4, none⟩ = some (.slice ro r.length rc) ∧ w6.cell? ⟨w.heap.size, 0, none⟩ = some (.int .i64 iv) ∧ w6.cell? ⟨w.heap.size, 1, none⟩ = some (.int .i64 jv) ∧ w6.cell? ⟨w.heap.size, 2, none⟩ = some (.int .i64 kv)); clear hy6 hb6 hQ))
  all_goals
    go_wp2
    refine bodyPost_ret (v := .agg #[.int .i64 kap, .bool cl, .slice bo1 b.length bc1, .slice po Rk.length pc, .slice po2 (r.length + 1) (r.length + 1)]) (by simp [results, Try.results69, go_sem, rg0, rg1, rg2, rg3, rg4]) rfl ?_
    exact ⟨⟨_, _, _, _, po2, _, by simp, ((((((((F7.out.setOff (a := ⟨w1.heap.size, 4, none⟩) (by dsimp only; omega) _).setOff (a := ⟨w.heap.size + 1 + 1, 0, none⟩) (by dsimp only; omega) _).setOff (a := ⟨w.heap.size + 1 + 1, 1, none⟩) (by dsimp only; omega) _).setOff (a := ⟨w.heap.size + 1 + 1, 2, none⟩) (by dsimp only; omega) _).setOff (a := ⟨w.heap.size + 1 + 1, 3, none⟩) (by dsimp only; omega) _).setOff (a := ⟨w.heap.size + 1 + 1, 4, none⟩) (by dsimp only; omega) _).1.wide (by omega) (Nat.le_refl _)).low (Nat.le_refl _)), ((((((((K7.out.setOff (a := ⟨w1.heap.size, 4, none⟩) (by dsimp only; omega) _).setOff (a := ⟨w.heap.size + 1 + 1, 0, none⟩) (by dsimp only; omega) _).setOff (a := ⟨w.heap.size + 1 + 1, 1, none⟩) (by dsimp only; omega) _).setOff (a := ⟨w.heap.size + 1 + 1, 2, none⟩) (by dsimp only; omega) _).setOff (a := ⟨w.heap.size + 1 + 1, 3, none⟩) (by dsimp only; omega) _).setOff (a := ⟨w.heap.size + 1 + 1, 4, none⟩) (by dsimp only; omega) _).wide (by omega) (Nat.le_refl _)).low (Nat.le_refl _)), ((((((((K27.out.setOff (a := ⟨w1.heap.size, 4, none⟩) (by dsimp only; omega) _).setOff (a := ⟨w.heap.size + 1 + 1, 0, none⟩) (by dsimp only; omega) _).setOff (a := ⟨w.heap.size + 1 + 1, 1, none⟩) (by dsimp only; omega) _).setOff (a := ⟨w.heap.size + 1 + 1, 2, none⟩) (by dsimp only; omega) _).setOff (a := ⟨w.heap.size + 1 + 1, 3, none⟩) (by dsimp only; omega) _).setOff (a := ⟨w.heap.size + 1 + 1, 4, none⟩) (by dsimp only; omega) _).wide (by omega) (Nat.le_refl _)).low (Nat.le_refl _)), Kind.Fresh.apart K7.out K27.out (by omega)⟩, ((((((hB7.setCell (p := ⟨w1.heap.size, 4, none⟩) (by dsimp only; omega) _).setCell (p := ⟨w.heap.size + 1 + 1, 0, none⟩) (by dsimp only; omega) _).setCell (p := ⟨w.heap.size + 1 + 1, 1, none⟩) (by dsimp only; omega) _).setCell (p := ⟨w.heap.size + 1 + 1, 2, none⟩) (by dsimp only; omega) _).setCell (p := ⟨w.heap.size + 1 + 1, 3, none⟩) (by dsimp only; omega) _).setCell (p := ⟨w.heap.size + 1 + 1, 4, none⟩) (by dsimp only; omega) _)⟩
end Go.Proofs.Ytnnlbnbamhkcaaa
