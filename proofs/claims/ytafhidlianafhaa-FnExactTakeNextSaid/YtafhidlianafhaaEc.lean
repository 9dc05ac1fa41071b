
/- PutSystem: the program and the specification. No conditions but those written. -/
import Derived.Test.YtafhidlianafhaaEa
import Derived.Test.YtafhidlianafhaaAp
import Derived.Deep.Cut
namespace Go.Proofs.Ytafhidlianafhaa
open Go.RowKit

/-- PutSystem's answer. -/
def sysR (kap : Int) (cl : Bool) (b : List Int) (s r : List (Int × Int × Int)) (iv : Int) : Int × Bool × List Int × List (Int × Int × Int) × List (Int × Int × Int) × Int := if goodX kap b s r = true then (if b.length = 30 then (kap, cl, b, s, r, 3) else (kap, cl, b ++ [iv], s, r, 0)) else (0, false, [], [], [], 1)
theorem sysR_bad {kap : Int} {cl : Bool} {b : List Int} {s r : List (Int × Int × Int)} {iv : Int} (h : goodX kap b s r = false) : sysR kap cl b s r iv = (0, false, [], [], [], 1) := by rw [sysR, if_neg]; rw [h]; simp
theorem sysR_len {kap : Int} {cl : Bool} {b : List Int} {s r : List (Int × Int × Int)} {iv : Int} (h1 : b.length ≤ 1048576) (h2 : s.length ≤ 1048576) (h3 : r.length ≤ 1048576) : (sysR kap cl b s r iv).2.2.1.length ≤ 1048576 ∧ (sysR kap cl b s r iv).2.2.2.1.length ≤ 1048576 ∧ (sysR kap cl b s r iv).2.2.2.2.1.length ≤ 1048576 := by
  unfold sysR
  split
  · rename_i h
    have := (goodX_good h).2.2.1
    split
    · exact ⟨h1, h2, h3⟩
    · refine ⟨?_, h2, h3⟩
      show (b ++ [iv]).length ≤ 1048576
      simp; omega
  · simp
set_option maxHeartbeats 2000000 in
theorem refusalS_any (iv : Int) (x : Int) (kap : Int) (cl : Bool) (bo : Option Addr) (bc : Nat) (b : List Int) (so : Option Addr) (sc : Nat) (s : List (Int × Int × Int)) (ro : Option Addr) (rc : Nat) (r : List (Int × Int × Int)) (w : World) (_hlb : b.length ≤ 1048576) (_hls : s.length ≤ 1048576) (_hlr : r.length ≤ 1048576) (_hz : InBox w.heap.size w bo b so s ro r) (hx : (if b.length = 30 then (3 : Int) else 0) = x) :
    Calls Try.prog 88 #[.int .i64 iv, .agg #[.int .i64 kap, .bool cl, .slice bo b.length bc, .slice so s.length sc, .slice ro r.length rc]] w fun e w' => e = .returned (.int .i64 x) ∧ Below w.heap.size w w' := by
  by_cases h0 : b.length = 30
  · obtain ⟨w0, hw0⟩ : ∃ w0, w0 = (w.alloc (.cells #[.int .i64 kap, .bool cl, .slice bo b.length bc, .slice so s.length sc, .slice ro r.length rc] 30)) := ⟨_, rfl⟩
    have hB0 : Below w.heap.size w w0 := by rw [hw0]; exact Below.allocS (Below.refl _ _) _
    have XA0 : Hid (Bx w0 (w.heap.size) [.int .i64 kap, .bool cl, .slice bo b.length bc, .slice so s.length sc, .slice ro r.length rc]) := by rw [hw0]; exact Bx.new [.int .i64 kap, .bool cl, .slice bo b.length bc, .slice so s.length sc, .slice ro r.length rc] _ rfl
    have H0 : Hid (w0 = (w.alloc (.cells #[.int .i64 kap, .bool cl, .slice bo b.length bc, .slice so s.length sc, .slice ro r.length rc] 30))) := hw0
    have hs0 : w.heap.size + 1 ≤ w0.heap.size := by rw [hw0]; simp
    clear hw0
    have h0' : ((b.length : Int) == 30) = true := by simp [h0]
    have HV : Hid (x = 3) := by rw [Hid, ← hx, if_pos h0]
    clear h0 hx
    go_enter Try.func88, Try.ntmps88
    go_wp2
    go_ret
    exact ⟨ret_int HV.out.symm, below1 _ _⟩
  · obtain ⟨w0, hw0⟩ : ∃ w0, w0 = (w.alloc (.cells #[.int .i64 kap, .bool cl, .slice bo b.length bc, .slice so s.length sc, .slice ro r.length rc] 30)) := ⟨_, rfl⟩
    have hB0 : Below w.heap.size w w0 := by rw [hw0]; exact Below.allocS (Below.refl _ _) _
    have XA0 : Hid (Bx w0 (w.heap.size) [.int .i64 kap, .bool cl, .slice bo b.length bc, .slice so s.length sc, .slice ro r.length rc]) := by rw [hw0]; exact Bx.new [.int .i64 kap, .bool cl, .slice bo b.length bc, .slice so s.length sc, .slice ro r.length rc] _ rfl
    have H0 : Hid (w0 = (w.alloc (.cells #[.int .i64 kap, .bool cl, .slice bo b.length bc, .slice so s.length sc, .slice ro r.length rc] 30))) := hw0
    have hs0 : w.heap.size + 1 ≤ w0.heap.size := by rw [hw0]; simp
    clear hw0
    have h0' : ((b.length : Int) == 30) = false := by simp; omega
    have HV : Hid (x = 0) := by rw [Hid, ← hx, if_neg h0]
    clear h0 hx
    go_enter Try.func88, Try.ntmps88
    go_wp2
    go_ret
    exact ⟨ret_int HV.out.symm, below1 _ _⟩
set_option maxRecDepth 10000 in
set_option maxHeartbeats 8000000 in
theorem putIntoS_any (iv : Int) (kap : Int) (cl : Bool) (bo : Option Addr) (bc : Nat) (b : List Int) (so : Option Addr) (sc : Nat) (s : List (Int × Int × Int)) (ro : Option Addr) (rc : Nat) (r : List (Int × Int × Int)) (w : World) (hlb : b.length ≤ 1048576) (hls : s.length ≤ 1048576) (hlr : r.length ≤ 1048576) (hz : InBox w.heap.size w bo b so s ro r) :
    Calls Try.prog 87 #[.int .i64 iv, .agg #[.int .i64 kap, .bool cl, .slice bo b.length bc, .slice so s.length sc, .slice ro r.length rc]] w fun e w' => AnsBox w kap cl (b ++ [iv]) s r e w' := by
  obtain ⟨w0, hw0⟩ : ∃ w0, w0 = ((w.alloc (.cells #[.int .i64 kap, .bool cl, .slice bo b.length bc, .slice so s.length sc, .slice ro r.length rc] 30)).alloc (.cells #[.int .i64 0, .bool false, .slice none 0 0, .slice none 0 0, .slice none 0 0] 30)) := ⟨_, rfl⟩
  have hB0 : Below w.heap.size w w0 := by rw [hw0]; exact Below.allocS (Below.allocS (Below.refl _ _) _) _
  have XA0 : Hid (Bx w0 (w.heap.size) [.int .i64 kap, .bool cl, .slice bo b.length bc, .slice so s.length sc, .slice ro r.length rc]) := by rw [hw0]; exact Bx.alloc (Bx.new [.int .i64 kap, .bool cl, .slice bo b.length bc, .slice so s.length sc, .slice ro r.length rc] _ rfl) _
  have XR0 : Hid (Bx w0 (w.heap.size + 1) [.int .i64 0, .bool false, .slice none 0 0, .slice none 0 0, .slice none 0 0]) := by rw [hw0]; exact Bx.new [.int .i64 0, .bool false, .slice none 0 0, .slice none 0 0, .slice none 0 0] _ (by simp)
  have H0 : Hid (w0 = ((w.alloc (.cells #[.int .i64 kap, .bool cl, .slice bo b.length bc, .slice so s.length sc, .slice ro r.length rc] 30)).alloc (.cells #[.int .i64 0, .bool false, .slice none 0 0, .slice none 0 0, .slice none 0 0] 30))) := hw0
  have hs0 : w.heap.size + 1 + 1 ≤ w0.heap.size := by rw [hw0]; simp
  clear hw0
  have hfl : ∀ (a : Option Addr) (n c : Nat) (W : World), (Instr.field 106 (.agg #[.slice a n c]) 0).run Try.prog W = .ok (.slice a n c) W := run_field106
  go_enter Try.func87, Try.ntmps87
  go_wp2_with fail
  rw [← H0.out]
  refine (copyBox_any kap cl bo bc b so sc s ro rc r w0 hlb hls hlr (hz.later hB0)).mono ?_
  rintro e w1 ⟨⟨bo1, bc1, so1, sc1, ro1, rc1, rfl, hF⟩, hb1⟩
  have hB1 := hB0.trans (hb1.mono hB0.size)
  have hs1 : w.heap.size + 1 + 1 ≤ w1.heap.size := Nat.le_trans hs0 hb1.size
  have hz1 : w0.heap.size ≤ w1.heap.size := hb1.size
  have XA1 := hid (XA0.out.later hb1)
  have XR1 := hid (XR0.out.later hb1)
  clear XA0 XR0
  have F1 := hid (hF)
  clear hb1 hF
  have a0 := XA1.out.c 0 rfl
  have af0 := XA1.out.f 0 rfl
  have a1 := XA1.out.c 1 rfl
  have af1 := XA1.out.f 1 rfl
  have a2 := XA1.out.c 2 rfl
  have af2 := XA1.out.f 2 rfl
  have a3 := XA1.out.c 3 rfl
  have af3 := XA1.out.f 3 rfl
  have a4 := XA1.out.c 4 rfl
  have af4 := XA1.out.f 4 rfl
  have az := XA1.out.size
  have r0 := XR1.out.c 0 rfl
  have rf0 := XR1.out.f 0 rfl
  have r1 := XR1.out.c 1 rfl
  have rf1 := XR1.out.f 1 rfl
  have r2 := XR1.out.c 2 rfl
  have rf2 := XR1.out.f 2 rfl
  have r3 := XR1.out.c 3 rfl
  have rf3 := XR1.out.f 3 rfl
  have r4 := XR1.out.c 4 rfl
  have rf4 := XR1.out.f 4 rfl
  have rz := XR1.out.size
  obtain ⟨w2, hV⟩ : ∃ V, V = w1.alloc (.cells #[.int .i64 kap, .bool cl, .slice bo1 b.length bc1, .slice so1 s.length sc1, .slice ro1 r.length rc1] 30) := ⟨_, rfl⟩
  have hz2 : w1.heap.size ≤ w2.heap.size := by rw [hV]; simp
  have hs2 : w.heap.size + 1 + 1 ≤ w2.heap.size := Nat.le_trans hs1 hz2
  have hB2 : Below w.heap.size w w2 := by rw [hV]; exact Below.allocS hB1 _
  have XA2 := hid (XA1.out.alloc (.cells #[.int .i64 kap, .bool cl, .slice bo1 b.length bc1, .slice so1 s.length sc1, .slice ro1 r.length rc1] 30))
  rw [← hV] at XA2
  have XR2 := hid (XR1.out.alloc (.cells #[.int .i64 kap, .bool cl, .slice bo1 b.length bc1, .slice so1 s.length sc1, .slice ro1 r.length rc1] 30))
  rw [← hV] at XR2
  have F2 := hid (F1.out.later (below1 w1 (.cells #[.int .i64 kap, .bool cl, .slice bo1 b.length bc1, .slice so1 s.length sc1, .slice ro1 r.length rc1] 30)))
  rw [← hV] at F2
  have H2 : Hid (w2 = w1.alloc (.cells #[.int .i64 kap, .bool cl, .slice bo1 b.length bc1, .slice so1 s.length sc1, .slice ro1 r.length rc1] 30)) := hV
  clear hV XA1 XR1 F1
  have XN2 : Hid (Bx w2 w1.heap.size [.int .i64 kap, .bool cl, .slice bo1 b.length bc1, .slice so1 s.length sc1, .slice ro1 r.length rc1]) := by rw [H2.out]; exact Bx.new [.int .i64 kap, .bool cl, .slice bo1 b.length bc1, .slice so1 s.length sc1, .slice ro1 r.length rc1] _ rfl
  have hy2 : w1.heap.size < w2.heap.size := XN2.out.size
  go_wp2_with fail
  clear a0 af0 a1 af1 a2 af2 a3 af3 a4 af4 az r0 rf0 r1 rf1 r2 rf2 r3 rf3 r4 rf4 rz
  rw [← H2.out]
  refine (queueOfI_any bo bc b w2 hlb (hz.1.later hB2)).mono ?_
  rintro e w3 ⟨⟨qo, rfl, hQ⟩, hb3⟩
  have hB3 := hB2.trans (hb3.mono hB2.size)
  have hs3 : w.heap.size + 1 + 1 ≤ w3.heap.size := Nat.le_trans hs2 hb3.size
  have hz3 : w2.heap.size ≤ w3.heap.size := hb3.size
  have XA3 := hid (XA2.out.later hb3)
  have XR3 := hid (XR2.out.later hb3)
  have XN3 := hid (XN2.out.later hb3)
  have F3 := hid (F2.out.later hb3)
  clear XA2 XR2 XN2 F2
  have Q3 := hid (hQ)
  clear hb3 hQ
  have a0 := XA3.out.c 0 rfl
  have af0 := XA3.out.f 0 rfl
  have a1 := XA3.out.c 1 rfl
  have af1 := XA3.out.f 1 rfl
  have a2 := XA3.out.c 2 rfl
  have af2 := XA3.out.f 2 rfl
  have a3 := XA3.out.c 3 rfl
  have af3 := XA3.out.f 3 rfl
  have a4 := XA3.out.c 4 rfl
  have af4 := XA3.out.f 4 rfl
  have az := XA3.out.size
  have r0 := XR3.out.c 0 rfl
  have rf0 := XR3.out.f 0 rfl
  have r1 := XR3.out.c 1 rfl
  have rf1 := XR3.out.f 1 rfl
  have r2 := XR3.out.c 2 rfl
  have rf2 := XR3.out.f 2 rfl
  have r3 := XR3.out.c 3 rfl
  have rf3 := XR3.out.f 3 rfl
  have r4 := XR3.out.c 4 rfl
  have rf4 := XR3.out.f 4 rfl
  have rz := XR3.out.size
  have n0 := XN3.out.c 0 rfl
  have nf0 := XN3.out.f 0 rfl
  have n1 := XN3.out.c 1 rfl
  have nf1 := XN3.out.f 1 rfl
  have n2 := XN3.out.c 2 rfl
  have nf2 := XN3.out.f 2 rfl
  have n3 := XN3.out.c 3 rfl
  have nf3 := XN3.out.f 3 rfl
  have n4 := XN3.out.c 4 rfl
  have nf4 := XN3.out.f 4 rfl
  have nz := XN3.out.size
  go_wp2_with fail
  clear a0 af0 a1 af1 a2 af2 a3 af3 a4 af4 az r0 rf0 r1 rf1 r2 rf2 r3 rf3 r4 rf4 rz n0 nf0 n1 nf1 n2 nf2 n3 nf3 n4 nf4 nz
  refine (withI_any qo b.length b iv w3 hlb Q3.out.in).mono ?_
  rintro e w4 ⟨⟨po, rfl, hQ⟩, hb4⟩
  have hB4 := hB3.trans (hb4.mono hB3.size)
  have hs4 : w.heap.size + 1 + 1 ≤ w4.heap.size := Nat.le_trans hs3 hb4.size
  have hz4 : w3.heap.size ≤ w4.heap.size := hb4.size
  have XA4 := hid (XA3.out.later hb4)
  have XR4 := hid (XR3.out.later hb4)
  have XN4 := hid (XN3.out.later hb4)
  have F4 := hid (F3.out.later hb4)
  have Q4 := hid (Q3.out.later hb4)
  clear XA3 XR3 XN3 F3 Q3
  have K4 := hid (hQ)
  clear hb4 hQ
  have a0 := XA4.out.c 0 rfl
  have af0 := XA4.out.f 0 rfl
  have a1 := XA4.out.c 1 rfl
  have af1 := XA4.out.f 1 rfl
  have a2 := XA4.out.c 2 rfl
  have af2 := XA4.out.f 2 rfl
  have a3 := XA4.out.c 3 rfl
  have af3 := XA4.out.f 3 rfl
  have a4 := XA4.out.c 4 rfl
  have af4 := XA4.out.f 4 rfl
  have az := XA4.out.size
  have r0 := XR4.out.c 0 rfl
  have rf0 := XR4.out.f 0 rfl
  have r1 := XR4.out.c 1 rfl
  have rf1 := XR4.out.f 1 rfl
  have r2 := XR4.out.c 2 rfl
  have rf2 := XR4.out.f 2 rfl
  have r3 := XR4.out.c 3 rfl
  have rf3 := XR4.out.f 3 rfl
  have r4 := XR4.out.c 4 rfl
  have rf4 := XR4.out.f 4 rfl
  have rz := XR4.out.size
  have n0 := XN4.out.c 0 rfl
  have nf0 := XN4.out.f 0 rfl
  have n1 := XN4.out.c 1 rfl
  have nf1 := XN4.out.f 1 rfl
  have n2 := XN4.out.c 2 rfl
  have nf2 := XN4.out.f 2 rfl
  have n3 := XN4.out.c 3 rfl
  have nf3 := XN4.out.f 3 rfl
  have n4 := XN4.out.c 4 rfl
  have nf4 := XN4.out.f 4 rfl
  have nz := XN4.out.size
  go_upto_region 3 with fail
  clear a0 af0 a1 af1 a2 af2 a3 af3 a4 af4 az r0 rf0 r1 rf1 r2 rf2 r3 rf3 r4 rf4 rz n0 nf0 n1 nf1 n2 nf2 n3 nf3 n4 nf4 nz
  obtain ⟨w5, hV⟩ : ∃ V, V = (w4.setCell ⟨w1.heap.size, 2, none⟩ (.slice po (b.length + 1) (b.length + 1))) := ⟨_, rfl⟩
  have hz5 : w4.heap.size ≤ w5.heap.size := by rw [hV]; simp [World.setCell]
  have hs5 : w.heap.size + 1 + 1 ≤ w5.heap.size := Nat.le_trans hs4 hz5
  have hB5 : Below w.heap.size w w5 := by rw [hV]; exact (hB4.setCell (p := ⟨w1.heap.size, 2, none⟩) (by dsimp only; omega) _)
  have XA5 := hid ((XA4.out.other (a := ⟨w1.heap.size, 2, none⟩) (by dsimp only; omega) (.slice po (b.length + 1) (b.length + 1))))
  rw [← hV] at XA5
  have XR5 := hid ((XR4.out.other (a := ⟨w1.heap.size, 2, none⟩) (by dsimp only; omega) (.slice po (b.length + 1) (b.length + 1))))
  rw [← hV] at XR5
  have XN5 := hid ((XN4.out.set 2 (.slice po (b.length + 1) (b.length + 1))))
  rw [← hV] at XN5
  have F5 := hid ((F4.out.setOff (a := ⟨w1.heap.size, 2, none⟩) (by dsimp only; omega) (.slice po (b.length + 1) (b.length + 1))))
  rw [← hV] at F5
  have Q5 := hid ((Q4.out.setOff (a := ⟨w1.heap.size, 2, none⟩) (by dsimp only; omega) (.slice po (b.length + 1) (b.length + 1))))
  rw [← hV] at Q5
  have K5 := hid ((K4.out.setOff (a := ⟨w1.heap.size, 2, none⟩) (by dsimp only; omega) (.slice po (b.length + 1) (b.length + 1))))
  rw [← hV] at K5
  have H5 : Hid (w5 = (w4.setCell ⟨w1.heap.size, 2, none⟩ (.slice po (b.length + 1) (b.length + 1)))) := hV
  clear hV XA4 XR4 XN4 F4 Q4 K4
  rw [← H5.out]
  clear H5
  have a0 := XA5.out.c 0 rfl
  have af0 := XA5.out.f 0 rfl
  have a1 := XA5.out.c 1 rfl
  have af1 := XA5.out.f 1 rfl
  have a2 := XA5.out.c 2 rfl
  have af2 := XA5.out.f 2 rfl
  have a3 := XA5.out.c 3 rfl
  have af3 := XA5.out.f 3 rfl
  have a4 := XA5.out.c 4 rfl
  have af4 := XA5.out.f 4 rfl
  have az := XA5.out.size
  have r0 := XR5.out.c 0 rfl
  have rf0 := XR5.out.f 0 rfl
  have r1 := XR5.out.c 1 rfl
  have rf1 := XR5.out.f 1 rfl
  have r2 := XR5.out.c 2 rfl
  have rf2 := XR5.out.f 2 rfl
  have r3 := XR5.out.c 3 rfl
  have rf3 := XR5.out.f 3 rfl
  have r4 := XR5.out.c 4 rfl
  have rf4 := XR5.out.f 4 rfl
  have rz := XR5.out.size
  have n0 := XN5.out.c 0 rfl
  have nf0 := XN5.out.f 0 rfl
  have n1 := XN5.out.c 1 rfl
  have nf1 := XN5.out.f 1 rfl
  have n2 := XN5.out.c 2 rfl
  have nf2 := XN5.out.f 2 rfl
  have n3 := XN5.out.c 3 rfl
  have nf3 := XN5.out.f 3 rfl
  have n4 := XN5.out.c 4 rfl
  have nf4 := XN5.out.f 4 rfl
  have nz := XN5.out.size
  go_wp2
  refine bodyPost_ret (v := .agg #[.int .i64 kap, .bool cl, .slice po (b.length + 1) (b.length + 1), .slice so1 s.length sc1, .slice ro1 r.length rc1]) (by simp [results, Try.results87, go_sem, r0, r1, r2, r3, r4]) rfl ?_
  exact ⟨⟨po, _, _, _, _, _, by simp, ((((((((K5.out.setOff (a := ⟨w.heap.size + 1, 0, none⟩) (by dsimp only; omega) _).setOff (a := ⟨w.heap.size + 1, 1, none⟩) (by dsimp only; omega) _).setOff (a := ⟨w.heap.size + 1, 2, none⟩) (by dsimp only; omega) _).setOff (a := ⟨w.heap.size + 1, 3, none⟩) (by dsimp only; omega) _).setOff (a := ⟨w.heap.size + 1, 4, none⟩) (by dsimp only; omega) _).wide (by omega) (Nat.le_refl _)).low (Nat.le_refl _))), (((((((F5.out.setOff (a := ⟨w.heap.size + 1, 0, none⟩) (by dsimp only; omega) _).setOff (a := ⟨w.heap.size + 1, 1, none⟩) (by dsimp only; omega) _).setOff (a := ⟨w.heap.size + 1, 2, none⟩) (by dsimp only; omega) _).setOff (a := ⟨w.heap.size + 1, 3, none⟩) (by dsimp only; omega) _).setOff (a := ⟨w.heap.size + 1, 4, none⟩) (by dsimp only; omega) _).2.1.wide (by omega) (Nat.le_refl _)).low (Nat.le_refl _)), (((((((F5.out.setOff (a := ⟨w.heap.size + 1, 0, none⟩) (by dsimp only; omega) _).setOff (a := ⟨w.heap.size + 1, 1, none⟩) (by dsimp only; omega) _).setOff (a := ⟨w.heap.size + 1, 2, none⟩) (by dsimp only; omega) _).setOff (a := ⟨w.heap.size + 1, 3, none⟩) (by dsimp only; omega) _).setOff (a := ⟨w.heap.size + 1, 4, none⟩) (by dsimp only; omega) _).2.2.1.wide (by omega) (Nat.le_refl _)).low (Nat.le_refl _)), F5.out.2.2.2⟩, (((((hB5.setCell (p := ⟨w.heap.size + 1, 0, none⟩) (by dsimp only; omega) _).setCell (p := ⟨w.heap.size + 1, 1, none⟩) (by dsimp only; omega) _).setCell (p := ⟨w.heap.size + 1, 2, none⟩) (by dsimp only; omega) _).setCell (p := ⟨w.heap.size + 1, 3, none⟩) (by dsimp only; omega) _).setCell (p := ⟨w.heap.size + 1, 4, none⟩) (by dsimp only; omega) _)⟩
set_option maxRecDepth 10000 in
set_option maxHeartbeats 8000000 in
theorem putPostS_any (iv : Int) (kap : Int) (cl : Bool) (bo : Option Addr) (bc : Nat) (b : List Int) (so : Option Addr) (sc : Nat) (s : List (Int × Int × Int)) (ro : Option Addr) (rc : Nat) (r : List (Int × Int × Int)) (w : World) (hlb : b.length ≤ 1048576) (hls : s.length ≤ 1048576) (hlr : r.length ≤ 1048576) (hz : InBox w.heap.size w bo b so s ro r) :
    Calls Try.prog 48 #[.agg #[.int .i64 kap, .bool cl, .slice bo b.length bc, .slice so s.length sc, .slice ro r.length rc], .iface 63 (.int .i64 iv)] w fun e w' => AnsN w (sysR kap cl b s r iv) e w' := by
  have hm0 : ∀ W : World, (method 114 63 (.int .i64 iv) "loop.example/g00145/impl.refusal").run Try.prog W = .ok (88, .int .i64 iv) W := fun _ => by kernel_rfl
  have hn0 : ∀ W : World, (nilAhead 114 63 (.int .i64 iv) "loop.example/g00145/impl.refusal").run Try.prog W = .ok (some false) W := fun _ => by kernel_rfl
  have hm1 : ∀ W : World, (method 114 63 (.int .i64 iv) "loop.example/g00145/impl.putInto").run Try.prog W = .ok (87, .int .i64 iv) W := fun _ => by kernel_rfl
  have hn1 : ∀ W : World, (nilAhead 114 63 (.int .i64 iv) "loop.example/g00145/impl.putInto").run Try.prog W = .ok (some false) W := fun _ => by kernel_rfl
  cases hg : goodX kap b s r
  · have HG : Hid (goodX kap b s r = false) := hg
    have HR : Hid (sysR kap cl b s r iv = (0, false, [], [], [], 1)) := sysR_bad hg
    clear hg
    obtain ⟨w0, hw0⟩ : ∃ w0, w0 = ((w.alloc (.cells #[.int .i64 kap, .bool cl, .slice bo b.length bc, .slice so s.length sc, .slice ro r.length rc] 30)).alloc (.cells #[.int .i64 0, .bool false, .slice none 0 0, .slice none 0 0, .slice none 0 0] 30)) := ⟨_, rfl⟩
    have hB0 : Below w.heap.size w w0 := by rw [hw0]; exact Below.allocS (Below.allocS (Below.refl _ _) _) _
    have XA0 : Hid (Bx w0 (w.heap.size) [.int .i64 kap, .bool cl, .slice bo b.length bc, .slice so s.length sc, .slice ro r.length rc]) := by rw [hw0]; exact Bx.alloc (Bx.new [.int .i64 kap, .bool cl, .slice bo b.length bc, .slice so s.length sc, .slice ro r.length rc] _ rfl) _
    have XR0 : Hid (Bx w0 (w.heap.size + 1) [.int .i64 0, .bool false, .slice none 0 0, .slice none 0 0, .slice none 0 0]) := by rw [hw0]; exact Bx.new [.int .i64 0, .bool false, .slice none 0 0, .slice none 0 0, .slice none 0 0] _ (by simp)
    have H0 : Hid (w0 = ((w.alloc (.cells #[.int .i64 kap, .bool cl, .slice bo b.length bc, .slice so s.length sc, .slice ro r.length rc] 30)).alloc (.cells #[.int .i64 0, .bool false, .slice none 0 0, .slice none 0 0, .slice none 0 0] 30))) := hw0
    have hs0 : w.heap.size + 1 + 1 ≤ w0.heap.size := by rw [hw0]; simp
    clear hw0
    go_enter Try.func48, Try.ntmps48
    go_wp2_with fail
    rw [← H0.out]
    refine (implGood_is kap cl bo bc b so sc s ro rc r w0 false hlb hls hlr (hz.later hB0) HG.out).mono ?_
    rintro e w1 ⟨rfl, hb1⟩
    have hB1 := hB0.trans (hb1.mono hB0.size)
    have hs1 : w.heap.size + 1 + 1 ≤ w1.heap.size := Nat.le_trans hs0 hb1.size
    have hz1 : w0.heap.size ≤ w1.heap.size := hb1.size
    have XA1 := hid (XA0.out.later hb1)
    have XR1 := hid (XR0.out.later hb1)
    clear XA0 XR0
    clear hb1
    have a0 := XA1.out.c 0 rfl
    have af0 := XA1.out.f 0 rfl
    have a1 := XA1.out.c 1 rfl
    have af1 := XA1.out.f 1 rfl
    have a2 := XA1.out.c 2 rfl
    have af2 := XA1.out.f 2 rfl
    have a3 := XA1.out.c 3 rfl
    have af3 := XA1.out.f 3 rfl
    have a4 := XA1.out.c 4 rfl
    have af4 := XA1.out.f 4 rfl
    have az := XA1.out.size
    have r0 := XR1.out.c 0 rfl
    have rf0 := XR1.out.f 0 rfl
    have r1 := XR1.out.c 1 rfl
    have rf1 := XR1.out.f 1 rfl
    have r2 := XR1.out.c 2 rfl
    have rf2 := XR1.out.f 2 rfl
    have r3 := XR1.out.c 3 rfl
    have rf3 := XR1.out.f 3 rfl
    have r4 := XR1.out.c 4 rfl
    have rf4 := XR1.out.f 4 rfl
    have rz := XR1.out.size
    go_wp2
    refine bodyPost_ret (v := .tuple #[.agg #[.int .i64 0, .bool false, .slice none 0 0, .slice none 0 0, .slice none 0 0], .int .i64 1]) (by simp [results, Try.results48, go_sem, r0, r1, r2, r3, r4]) rfl ?_
    rw [HR.out]
    exact ⟨⟨none, 0, none, 0, none, 0, rfl, frBox_nil _ _ _⟩, (((((hB1.setCell (p := ⟨w.heap.size + 1, 0, none⟩) (by dsimp only; omega) _).setCell (p := ⟨w.heap.size + 1, 1, none⟩) (by dsimp only; omega) _).setCell (p := ⟨w.heap.size + 1, 2, none⟩) (by dsimp only; omega) _).setCell (p := ⟨w.heap.size + 1, 3, none⟩) (by dsimp only; omega) _).setCell (p := ⟨w.heap.size + 1, 4, none⟩) (by dsimp only; omega) _)⟩
  have HG : Hid (goodX kap b s r = true) := hg
  by_cases h0 : b.length = 30
  · obtain ⟨w0, hw0⟩ : ∃ w0, w0 = ((w.alloc (.cells #[.int .i64 kap, .bool cl, .slice bo b.length bc, .slice so s.length sc, .slice ro r.length rc] 30)).alloc (.cells #[.int .i64 0, .bool false, .slice none 0 0, .slice none 0 0, .slice none 0 0] 30)) := ⟨_, rfl⟩
    have hB0 : Below w.heap.size w w0 := by rw [hw0]; exact Below.allocS (Below.allocS (Below.refl _ _) _) _
    have XA0 : Hid (Bx w0 (w.heap.size) [.int .i64 kap, .bool cl, .slice bo b.length bc, .slice so s.length sc, .slice ro r.length rc]) := by rw [hw0]; exact Bx.alloc (Bx.new [.int .i64 kap, .bool cl, .slice bo b.length bc, .slice so s.length sc, .slice ro r.length rc] _ rfl) _
    have XR0 : Hid (Bx w0 (w.heap.size + 1) [.int .i64 0, .bool false, .slice none 0 0, .slice none 0 0, .slice none 0 0]) := by rw [hw0]; exact Bx.new [.int .i64 0, .bool false, .slice none 0 0, .slice none 0 0, .slice none 0 0] _ (by simp)
    have H0 : Hid (w0 = ((w.alloc (.cells #[.int .i64 kap, .bool cl, .slice bo b.length bc, .slice so s.length sc, .slice ro r.length rc] 30)).alloc (.cells #[.int .i64 0, .bool false, .slice none 0 0, .slice none 0 0, .slice none 0 0] 30))) := hw0
    have hs0 : w.heap.size + 1 + 1 ≤ w0.heap.size := by rw [hw0]; simp
    clear hw0
    have HR : Hid (sysR kap cl b s r iv = (kap, cl, b, s, r, 3)) := by rw [Hid, sysR, if_pos hg, if_pos h0]
    have HV : Hid ((if b.length = 30 then (3 : Int) else 0) = 3) := by rw [Hid, if_pos h0]
    clear hg h0
    go_enter Try.func48, Try.ntmps48
    go_wp2_with fail
    rw [← H0.out]
    refine (implGood_is kap cl bo bc b so sc s ro rc r w0 true hlb hls hlr (hz.later hB0) HG.out).mono ?_
    rintro e w1 ⟨rfl, hb1⟩
    have hB1 := hB0.trans (hb1.mono hB0.size)
    have hs1 : w.heap.size + 1 + 1 ≤ w1.heap.size := Nat.le_trans hs0 hb1.size
    have hz1 : w0.heap.size ≤ w1.heap.size := hb1.size
    have XA1 := hid (XA0.out.later hb1)
    have XR1 := hid (XR0.out.later hb1)
    clear XA0 XR0
    clear hb1
    have a0 := XA1.out.c 0 rfl
    have af0 := XA1.out.f 0 rfl
    have a1 := XA1.out.c 1 rfl
    have af1 := XA1.out.f 1 rfl
    have a2 := XA1.out.c 2 rfl
    have af2 := XA1.out.f 2 rfl
    have a3 := XA1.out.c 3 rfl
    have af3 := XA1.out.f 3 rfl
    have a4 := XA1.out.c 4 rfl
    have af4 := XA1.out.f 4 rfl
    have az := XA1.out.size
    have r0 := XR1.out.c 0 rfl
    have rf0 := XR1.out.f 0 rfl
    have r1 := XR1.out.c 1 rfl
    have rf1 := XR1.out.f 1 rfl
    have r2 := XR1.out.c 2 rfl
    have rf2 := XR1.out.f 2 rfl
    have r3 := XR1.out.c 3 rfl
    have rf3 := XR1.out.f 3 rfl
    have r4 := XR1.out.c 4 rfl
    have rf4 := XR1.out.f 4 rfl
    have rz := XR1.out.size
    go_wp2_with fail
    clear a0 af0 a1 af1 a2 af2 a3 af3 a4 af4 az r0 rf0 r1 rf1 r2 rf2 r3 rf3 r4 rf4 rz
    refine (refusalS_any iv 3 kap cl bo bc b so sc s ro rc r w1 hlb hls hlr (hz.later hB1) HV.out).mono ?_
    rintro e w2 ⟨rfl, hb2⟩
    have hB2 := hB1.trans (hb2.mono hB1.size)
    have hs2 : w.heap.size + 1 + 1 ≤ w2.heap.size := Nat.le_trans hs1 hb2.size
    have hz2 : w1.heap.size ≤ w2.heap.size := hb2.size
    have XA2 := hid (XA1.out.later hb2)
    have XR2 := hid (XR1.out.later hb2)
    clear XA1 XR1
    clear hb2
    have a0 := XA2.out.c 0 rfl
    have af0 := XA2.out.f 0 rfl
    have a1 := XA2.out.c 1 rfl
    have af1 := XA2.out.f 1 rfl
    have a2 := XA2.out.c 2 rfl
    have af2 := XA2.out.f 2 rfl
    have a3 := XA2.out.c 3 rfl
    have af3 := XA2.out.f 3 rfl
    have a4 := XA2.out.c 4 rfl
    have af4 := XA2.out.f 4 rfl
    have az := XA2.out.size
    have r0 := XR2.out.c 0 rfl
    have rf0 := XR2.out.f 0 rfl
    have r1 := XR2.out.c 1 rfl
    have rf1 := XR2.out.f 1 rfl
    have r2 := XR2.out.c 2 rfl
    have rf2 := XR2.out.f 2 rfl
    have r3 := XR2.out.c 3 rfl
    have rf3 := XR2.out.f 3 rfl
    have r4 := XR2.out.c 4 rfl
    have rf4 := XR2.out.f 4 rfl
    have rz := XR2.out.size
    go_wp2_with fail
    clear a0 af0 a1 af1 a2 af2 a3 af3 a4 af4 az r0 rf0 r1 rf1 r2 rf2 r3 rf3 r4 rf4 rz
    refine (copyBox_any kap cl bo bc b so sc s ro rc r w2 hlb hls hlr (hz.later hB2)).mono ?_
    rintro e w3 ⟨⟨bo1, bc1, so1, sc1, ro1, rc1, rfl, hF⟩, hb3⟩
    have hB3 := hB2.trans (hb3.mono hB2.size)
    have hs3 : w.heap.size + 1 + 1 ≤ w3.heap.size := Nat.le_trans hs2 hb3.size
    have hz3 : w2.heap.size ≤ w3.heap.size := hb3.size
    have XA3 := hid (XA2.out.later hb3)
    have XR3 := hid (XR2.out.later hb3)
    clear XA2 XR2
    have F3 := hid (hF)
    clear hb3 hF
    have a0 := XA3.out.c 0 rfl
    have af0 := XA3.out.f 0 rfl
    have a1 := XA3.out.c 1 rfl
    have af1 := XA3.out.f 1 rfl
    have a2 := XA3.out.c 2 rfl
    have af2 := XA3.out.f 2 rfl
    have a3 := XA3.out.c 3 rfl
    have af3 := XA3.out.f 3 rfl
    have a4 := XA3.out.c 4 rfl
    have af4 := XA3.out.f 4 rfl
    have az := XA3.out.size
    have r0 := XR3.out.c 0 rfl
    have rf0 := XR3.out.f 0 rfl
    have r1 := XR3.out.c 1 rfl
    have rf1 := XR3.out.f 1 rfl
    have r2 := XR3.out.c 2 rfl
    have rf2 := XR3.out.f 2 rfl
    have r3 := XR3.out.c 3 rfl
    have rf3 := XR3.out.f 3 rfl
    have r4 := XR3.out.c 4 rfl
    have rf4 := XR3.out.f 4 rfl
    have rz := XR3.out.size
    go_wp2
    refine bodyPost_ret (v := .tuple #[.agg #[.int .i64 kap, .bool cl, .slice bo1 b.length bc1, .slice so1 s.length sc1, .slice ro1 r.length rc1], .int .i64 3]) (by simp [results, Try.results48, go_sem, r0, r1, r2, r3, r4]) rfl ?_
    rw [HR.out]
    exact ⟨⟨_, _, _, _, _, _, rfl, (FrBox.wide (((((F3.out.setOff (a := ⟨w.heap.size + 1, 0, none⟩) (by dsimp only; omega) _).setOff (a := ⟨w.heap.size + 1, 1, none⟩) (by dsimp only; omega) _).setOff (a := ⟨w.heap.size + 1, 2, none⟩) (by dsimp only; omega) _).setOff (a := ⟨w.heap.size + 1, 3, none⟩) (by dsimp only; omega) _).setOff (a := ⟨w.heap.size + 1, 4, none⟩) (by dsimp only; omega) _) (by omega) (Nat.le_refl _)).low (Nat.le_refl _)⟩, (((((hB3.setCell (p := ⟨w.heap.size + 1, 0, none⟩) (by dsimp only; omega) _).setCell (p := ⟨w.heap.size + 1, 1, none⟩) (by dsimp only; omega) _).setCell (p := ⟨w.heap.size + 1, 2, none⟩) (by dsimp only; omega) _).setCell (p := ⟨w.heap.size + 1, 3, none⟩) (by dsimp only; omega) _).setCell (p := ⟨w.heap.size + 1, 4, none⟩) (by dsimp only; omega) _)⟩
  · obtain ⟨w0, hw0⟩ : ∃ w0, w0 = ((w.alloc (.cells #[.int .i64 kap, .bool cl, .slice bo b.length bc, .slice so s.length sc, .slice ro r.length rc] 30)).alloc (.cells #[.int .i64 0, .bool false, .slice none 0 0, .slice none 0 0, .slice none 0 0] 30)) := ⟨_, rfl⟩
    have hB0 : Below w.heap.size w w0 := by rw [hw0]; exact Below.allocS (Below.allocS (Below.refl _ _) _) _
    have XA0 : Hid (Bx w0 (w.heap.size) [.int .i64 kap, .bool cl, .slice bo b.length bc, .slice so s.length sc, .slice ro r.length rc]) := by rw [hw0]; exact Bx.alloc (Bx.new [.int .i64 kap, .bool cl, .slice bo b.length bc, .slice so s.length sc, .slice ro r.length rc] _ rfl) _
    have XR0 : Hid (Bx w0 (w.heap.size + 1) [.int .i64 0, .bool false, .slice none 0 0, .slice none 0 0, .slice none 0 0]) := by rw [hw0]; exact Bx.new [.int .i64 0, .bool false, .slice none 0 0, .slice none 0 0, .slice none 0 0] _ (by simp)
    have H0 : Hid (w0 = ((w.alloc (.cells #[.int .i64 kap, .bool cl, .slice bo b.length bc, .slice so s.length sc, .slice ro r.length rc] 30)).alloc (.cells #[.int .i64 0, .bool false, .slice none 0 0, .slice none 0 0, .slice none 0 0] 30))) := hw0
    have hs0 : w.heap.size + 1 + 1 ≤ w0.heap.size := by rw [hw0]; simp
    clear hw0
    have HR : Hid (sysR kap cl b s r iv = (kap, cl, b ++ [iv], s, r, 0)) := by rw [Hid, sysR, if_pos hg, if_neg h0]
    have HV : Hid ((if b.length = 30 then (3 : Int) else 0) = 0) := by rw [Hid, if_neg h0]
    clear hg h0
    go_enter Try.func48, Try.ntmps48
    go_wp2_with fail
    rw [← H0.out]
    refine (implGood_is kap cl bo bc b so sc s ro rc r w0 true hlb hls hlr (hz.later hB0) HG.out).mono ?_
    rintro e w1 ⟨rfl, hb1⟩
    have hB1 := hB0.trans (hb1.mono hB0.size)
    have hs1 : w.heap.size + 1 + 1 ≤ w1.heap.size := Nat.le_trans hs0 hb1.size
    have hz1 : w0.heap.size ≤ w1.heap.size := hb1.size
    have XA1 := hid (XA0.out.later hb1)
    have XR1 := hid (XR0.out.later hb1)
    clear XA0 XR0
    clear hb1
    have a0 := XA1.out.c 0 rfl
    have af0 := XA1.out.f 0 rfl
    have a1 := XA1.out.c 1 rfl
    have af1 := XA1.out.f 1 rfl
    have a2 := XA1.out.c 2 rfl
    have af2 := XA1.out.f 2 rfl
    have a3 := XA1.out.c 3 rfl
    have af3 := XA1.out.f 3 rfl
    have a4 := XA1.out.c 4 rfl
    have af4 := XA1.out.f 4 rfl
    have az := XA1.out.size
    have r0 := XR1.out.c 0 rfl
    have rf0 := XR1.out.f 0 rfl
    have r1 := XR1.out.c 1 rfl
    have rf1 := XR1.out.f 1 rfl
    have r2 := XR1.out.c 2 rfl
    have rf2 := XR1.out.f 2 rfl
    have r3 := XR1.out.c 3 rfl
    have rf3 := XR1.out.f 3 rfl
    have r4 := XR1.out.c 4 rfl
    have rf4 := XR1.out.f 4 rfl
    have rz := XR1.out.size
    go_wp2_with fail
    clear a0 af0 a1 af1 a2 af2 a3 af3 a4 af4 az r0 rf0 r1 rf1 r2 rf2 r3 rf3 r4 rf4 rz
    refine (refusalS_any iv 0 kap cl bo bc b so sc s ro rc r w1 hlb hls hlr (hz.later hB1) HV.out).mono ?_
    rintro e w2 ⟨rfl, hb2⟩
    have hB2 := hB1.trans (hb2.mono hB1.size)
    have hs2 : w.heap.size + 1 + 1 ≤ w2.heap.size := Nat.le_trans hs1 hb2.size
    have hz2 : w1.heap.size ≤ w2.heap.size := hb2.size
    have XA2 := hid (XA1.out.later hb2)
    have XR2 := hid (XR1.out.later hb2)
    clear XA1 XR1
    clear hb2
    have a0 := XA2.out.c 0 rfl
    have af0 := XA2.out.f 0 rfl
    have a1 := XA2.out.c 1 rfl
    have af1 := XA2.out.f 1 rfl
    have a2 := XA2.out.c 2 rfl
    have af2 := XA2.out.f 2 rfl
    have a3 := XA2.out.c 3 rfl
    have af3 := XA2.out.f 3 rfl
    have a4 := XA2.out.c 4 rfl
    have af4 := XA2.out.f 4 rfl
    have az := XA2.out.size
    have r0 := XR2.out.c 0 rfl
    have rf0 := XR2.out.f 0 rfl
    have r1 := XR2.out.c 1 rfl
    have rf1 := XR2.out.f 1 rfl
    have r2 := XR2.out.c 2 rfl
    have rf2 := XR2.out.f 2 rfl
    have r3 := XR2.out.c 3 rfl
    have rf3 := XR2.out.f 3 rfl
    have r4 := XR2.out.c 4 rfl
    have rf4 := XR2.out.f 4 rfl
    have rz := XR2.out.size
    go_wp2_with fail
    clear a0 af0 a1 af1 a2 af2 a3 af3 a4 af4 az r0 rf0 r1 rf1 r2 rf2 r3 rf3 r4 rf4 rz
    refine (putIntoS_any iv kap cl bo bc b so sc s ro rc r w2 hlb hls hlr (hz.later hB2)).mono ?_
    rintro e w3 ⟨⟨bo1, bc1, so1, sc1, ro1, rc1, rfl, hF⟩, hb3⟩
    have hB3 := hB2.trans (hb3.mono hB2.size)
    have hs3 : w.heap.size + 1 + 1 ≤ w3.heap.size := Nat.le_trans hs2 hb3.size
    have hz3 : w2.heap.size ≤ w3.heap.size := hb3.size
    have XA3 := hid (XA2.out.later hb3)
    have XR3 := hid (XR2.out.later hb3)
    clear XA2 XR2
    have F3 := hid (hF)
    clear hb3 hF
    obtain ⟨q, eq⟩ : ∃ q, q = b ++ [iv] := ⟨_, rfl⟩
    rw [← eq] at F3 HR ⊢
    clear eq
    have a0 := XA3.out.c 0 rfl
    have af0 := XA3.out.f 0 rfl
    have a1 := XA3.out.c 1 rfl
    have af1 := XA3.out.f 1 rfl
    have a2 := XA3.out.c 2 rfl
    have af2 := XA3.out.f 2 rfl
    have a3 := XA3.out.c 3 rfl
    have af3 := XA3.out.f 3 rfl
    have a4 := XA3.out.c 4 rfl
    have af4 := XA3.out.f 4 rfl
    have az := XA3.out.size
    have r0 := XR3.out.c 0 rfl
    have rf0 := XR3.out.f 0 rfl
    have r1 := XR3.out.c 1 rfl
    have rf1 := XR3.out.f 1 rfl
    have r2 := XR3.out.c 2 rfl
    have rf2 := XR3.out.f 2 rfl
    have r3 := XR3.out.c 3 rfl
    have rf3 := XR3.out.f 3 rfl
    have r4 := XR3.out.c 4 rfl
    have rf4 := XR3.out.f 4 rfl
    have rz := XR3.out.size
    go_wp2
    refine bodyPost_ret (v := .tuple #[.agg #[.int .i64 kap, .bool cl, .slice bo1 q.length bc1, .slice so1 s.length sc1, .slice ro1 r.length rc1], .int .i64 0]) (by simp [results, Try.results48, go_sem, r0, r1, r2, r3, r4]) rfl ?_
    rw [HR.out]
    exact ⟨⟨_, _, _, _, _, _, rfl, (FrBox.wide (((((F3.out.setOff (a := ⟨w.heap.size + 1, 0, none⟩) (by dsimp only; omega) _).setOff (a := ⟨w.heap.size + 1, 1, none⟩) (by dsimp only; omega) _).setOff (a := ⟨w.heap.size + 1, 2, none⟩) (by dsimp only; omega) _).setOff (a := ⟨w.heap.size + 1, 3, none⟩) (by dsimp only; omega) _).setOff (a := ⟨w.heap.size + 1, 4, none⟩) (by dsimp only; omega) _) (by omega) (Nat.le_refl _)).low (Nat.le_refl _)⟩, (((((hB3.setCell (p := ⟨w.heap.size + 1, 0, none⟩) (by dsimp only; omega) _).setCell (p := ⟨w.heap.size + 1, 1, none⟩) (by dsimp only; omega) _).setCell (p := ⟨w.heap.size + 1, 2, none⟩) (by dsimp only; omega) _).setCell (p := ⟨w.heap.size + 1, 3, none⟩) (by dsimp only; omega) _).setCell (p := ⟨w.heap.size + 1, 4, none⟩) (by dsimp only; omega) _)⟩
set_option maxRecDepth 10000 in
set_option maxHeartbeats 8000000 in
theorem implPutS_any (kap : Int) (cl : Bool) (bo : Option Addr) (bc : Nat) (b : List Int) (so : Option Addr) (sc : Nat) (s : List (Int × Int × Int)) (ro : Option Addr) (rc : Nat) (r : List (Int × Int × Int)) (iv : Int) (w : World) (hlb : b.length ≤ 1048576) (hls : s.length ≤ 1048576) (hlr : r.length ≤ 1048576) (hz : InBox w.heap.size w bo b so s ro r) :
    Calls Try.prog 21 #[.agg #[.int .i64 kap, .bool cl, .slice bo b.length bc, .slice so s.length sc, .slice ro r.length rc], .int .i64 iv] w fun e w' => AnsN w (sysR kap cl b s r iv) e w' := by
  generalize hR : sysR kap cl b s r iv = R
  have HR : Hid (sysR kap cl b s r iv = R) := hR
  clear hR
  obtain ⟨Rk, Rcl, Rb, Rs, Rr, Rc⟩ := R
  obtain ⟨w0, hw0⟩ : ∃ w0, w0 = ((w.alloc (.cells #[.int .i64 kap, .bool cl, .slice bo b.length bc, .slice so s.length sc, .slice ro r.length rc] 30)).alloc (.cells #[.int .i64 0, .bool false, .slice none 0 0, .slice none 0 0, .slice none 0 0] 30)) := ⟨_, rfl⟩
  have hB0 : Below w.heap.size w w0 := by rw [hw0]; exact Below.allocS (Below.allocS (Below.refl _ _) _) _
  have XA0 : Hid (Bx w0 (w.heap.size) [.int .i64 kap, .bool cl, .slice bo b.length bc, .slice so s.length sc, .slice ro r.length rc]) := by rw [hw0]; exact Bx.alloc (Bx.new [.int .i64 kap, .bool cl, .slice bo b.length bc, .slice so s.length sc, .slice ro r.length rc] _ rfl) _
  have XR0 : Hid (Bx w0 (w.heap.size + 1) [.int .i64 0, .bool false, .slice none 0 0, .slice none 0 0, .slice none 0 0]) := by rw [hw0]; exact Bx.new [.int .i64 0, .bool false, .slice none 0 0, .slice none 0 0, .slice none 0 0] _ (by simp)
  have H0 : Hid (w0 = ((w.alloc (.cells #[.int .i64 kap, .bool cl, .slice bo b.length bc, .slice so s.length sc, .slice ro r.length rc] 30)).alloc (.cells #[.int .i64 0, .bool false, .slice none 0 0, .slice none 0 0, .slice none 0 0] 30))) := hw0
  have hs0 : w.heap.size + 1 + 1 ≤ w0.heap.size := by rw [hw0]; simp
  clear hw0
  go_enter Try.func21, Try.ntmps21
  go_wp2_with fail
  rw [← H0.out]
  refine (putPostS_any iv kap cl bo bc b so sc s ro rc r w0 hlb hls hlr (hz.later hB0)).mono ?_
  rintro e w1 ⟨⟨bo1, bc1, so1, sc1, ro1, rc1, rfl, hF⟩, hb1⟩
  rw [HR.out] at hF ⊢
  dsimp only at hF ⊢
  have hB1 := hB0.trans (hb1.mono hB0.size)
  have hs1 : w.heap.size + 1 + 1 ≤ w1.heap.size := Nat.le_trans hs0 hb1.size
  have hz1 : w0.heap.size ≤ w1.heap.size := hb1.size
  have XA1 := hid (XA0.out.later hb1)
  have XR1 := hid (XR0.out.later hb1)
  clear XA0 XR0
  have F1 := hid (hF)
  clear hb1 hF
  have a0 := XA1.out.c 0 rfl
  have af0 := XA1.out.f 0 rfl
  have a1 := XA1.out.c 1 rfl
  have af1 := XA1.out.f 1 rfl
  have a2 := XA1.out.c 2 rfl
  have af2 := XA1.out.f 2 rfl
  have a3 := XA1.out.c 3 rfl
  have af3 := XA1.out.f 3 rfl
  have a4 := XA1.out.c 4 rfl
  have af4 := XA1.out.f 4 rfl
  have az := XA1.out.size
  have r0 := XR1.out.c 0 rfl
  have rf0 := XR1.out.f 0 rfl
  have r1 := XR1.out.c 1 rfl
  have rf1 := XR1.out.f 1 rfl
  have r2 := XR1.out.c 2 rfl
  have rf2 := XR1.out.f 2 rfl
  have r3 := XR1.out.c 3 rfl
  have rf3 := XR1.out.f 3 rfl
  have r4 := XR1.out.c 4 rfl
  have rf4 := XR1.out.f 4 rfl
  have rz := XR1.out.size
  go_wp2
  refine bodyPost_ret (v := .tuple #[.agg #[.int .i64 Rk, .bool Rcl, .slice bo1 Rb.length bc1, .slice so1 Rs.length sc1, .slice ro1 Rr.length rc1], .int .i64 Rc]) (by simp [results, Try.results21, go_sem, r0, r1, r2, r3, r4]) rfl ?_
  exact ⟨⟨_, _, _, _, _, _, rfl, (FrBox.wide (((((F1.out.setOff (a := ⟨w.heap.size + 1, 0, none⟩) (by dsimp only; omega) _).setOff (a := ⟨w.heap.size + 1, 1, none⟩) (by dsimp only; omega) _).setOff (a := ⟨w.heap.size + 1, 2, none⟩) (by dsimp only; omega) _).setOff (a := ⟨w.heap.size + 1, 3, none⟩) (by dsimp only; omega) _).setOff (a := ⟨w.heap.size + 1, 4, none⟩) (by dsimp only; omega) _) (by omega) (Nat.le_refl _)).low (Nat.le_refl _)⟩, (((((hB1.setCell (p := ⟨w.heap.size + 1, 0, none⟩) (by dsimp only; omega) _).setCell (p := ⟨w.heap.size + 1, 1, none⟩) (by dsimp only; omega) _).setCell (p := ⟨w.heap.size + 1, 2, none⟩) (by dsimp only; omega) _).setCell (p := ⟨w.heap.size + 1, 3, none⟩) (by dsimp only; omega) _).setCell (p := ⟨w.heap.size + 1, 4, none⟩) (by dsimp only; omega) _)⟩
set_option maxRecDepth 10000 in
set_option maxHeartbeats 8000000 in
theorem specPutS_any (kap : Int) (cl : Bool) (bo : Option Addr) (bc : Nat) (b : List Int) (so : Option Addr) (sc : Nat) (s : List (Int × Int × Int)) (ro : Option Addr) (rc : Nat) (r : List (Int × Int × Int)) (iv : Int) (w : World) (hlb : b.length ≤ 1048576) (hls : s.length ≤ 1048576) (hlr : r.length ≤ 1048576) (hz : InBox w.heap.size w bo b so s ro r) (hwf : WfBox bo bc so sc ro rc) :
    Calls Try.prog 20 #[.agg #[.int .i64 kap, .bool cl, .slice bo b.length bc, .slice so s.length sc, .slice ro r.length rc], .int .i64 iv] w fun e w' => AnsN w (sysR kap cl b s r iv) e w' := by
  cases hg : goodX kap b s r
  · have HG : Hid (goodX kap b s r = false) := hg
    have HR : Hid (sysR kap cl b s r iv = (0, false, [], [], [], 1)) := sysR_bad hg
    clear hg
    obtain ⟨w0, hw0⟩ : ∃ w0, w0 = ((w.alloc (.cells #[.int .i64 kap, .bool cl, .slice bo b.length bc, .slice so s.length sc, .slice ro r.length rc] 30)).alloc (.cells #[.int .i64 0, .bool false, .slice none 0 0, .slice none 0 0, .slice none 0 0] 30)) := ⟨_, rfl⟩
    have hB0 : Below w.heap.size w w0 := by rw [hw0]; exact Below.allocS (Below.allocS (Below.refl _ _) _) _
    have XA0 : Hid (Bx w0 (w.heap.size) [.int .i64 kap, .bool cl, .slice bo b.length bc, .slice so s.length sc, .slice ro r.length rc]) := by rw [hw0]; exact Bx.alloc (Bx.new [.int .i64 kap, .bool cl, .slice bo b.length bc, .slice so s.length sc, .slice ro r.length rc] _ rfl) _
    have XR0 : Hid (Bx w0 (w.heap.size + 1) [.int .i64 0, .bool false, .slice none 0 0, .slice none 0 0, .slice none 0 0]) := by rw [hw0]; exact Bx.new [.int .i64 0, .bool false, .slice none 0 0, .slice none 0 0, .slice none 0 0] _ (by simp)
    have H0 : Hid (w0 = ((w.alloc (.cells #[.int .i64 kap, .bool cl, .slice bo b.length bc, .slice so s.length sc, .slice ro r.length rc] 30)).alloc (.cells #[.int .i64 0, .bool false, .slice none 0 0, .slice none 0 0, .slice none 0 0] 30))) := hw0
    have hs0 : w.heap.size + 1 + 1 ≤ w0.heap.size := by rw [hw0]; simp
    clear hw0
    go_enter Try.func20, Try.ntmps20
    go_wp2_with fail
    rw [← H0.out]
    refine (specGood_is kap cl bo bc b so sc s ro rc r w0 false hlb hls hlr (hz.later hB0) HG.out).mono ?_
    rintro e w1 ⟨rfl, hb1⟩
    have hB1 := hB0.trans (hb1.mono hB0.size)
    have hs1 : w.heap.size + 1 + 1 ≤ w1.heap.size := Nat.le_trans hs0 hb1.size
    have hz1 : w0.heap.size ≤ w1.heap.size := hb1.size
    have XA1 := hid (XA0.out.later hb1)
    have XR1 := hid (XR0.out.later hb1)
    clear XA0 XR0
    clear hb1
    have a0 := XA1.out.c 0 rfl
    have af0 := XA1.out.f 0 rfl
    have a1 := XA1.out.c 1 rfl
    have af1 := XA1.out.f 1 rfl
    have a2 := XA1.out.c 2 rfl
    have af2 := XA1.out.f 2 rfl
    have a3 := XA1.out.c 3 rfl
    have af3 := XA1.out.f 3 rfl
    have a4 := XA1.out.c 4 rfl
    have af4 := XA1.out.f 4 rfl
    have az := XA1.out.size
    have r0 := XR1.out.c 0 rfl
    have rf0 := XR1.out.f 0 rfl
    have r1 := XR1.out.c 1 rfl
    have rf1 := XR1.out.f 1 rfl
    have r2 := XR1.out.c 2 rfl
    have rf2 := XR1.out.f 2 rfl
    have r3 := XR1.out.c 3 rfl
    have rf3 := XR1.out.f 3 rfl
    have r4 := XR1.out.c 4 rfl
    have rf4 := XR1.out.f 4 rfl
    have rz := XR1.out.size
    go_wp2
    refine bodyPost_ret (v := .tuple #[.agg #[.int .i64 0, .bool false, .slice none 0 0, .slice none 0 0, .slice none 0 0], .int .i64 1]) (by simp [results, Try.results20, go_sem, r0, r1, r2, r3, r4]) rfl ?_
    rw [HR.out]
    exact ⟨⟨none, 0, none, 0, none, 0, rfl, frBox_nil _ _ _⟩, (((((hB1.setCell (p := ⟨w.heap.size + 1, 0, none⟩) (by dsimp only; omega) _).setCell (p := ⟨w.heap.size + 1, 1, none⟩) (by dsimp only; omega) _).setCell (p := ⟨w.heap.size + 1, 2, none⟩) (by dsimp only; omega) _).setCell (p := ⟨w.heap.size + 1, 3, none⟩) (by dsimp only; omega) _).setCell (p := ⟨w.heap.size + 1, 4, none⟩) (by dsimp only; omega) _)⟩
  have HG : Hid (goodX kap b s r = true) := hg
  by_cases h0 : b.length = 30
  · have HR : Hid (sysR kap cl b s r iv = (kap, cl, b, s, r, 3)) := by rw [Hid, sysR, if_pos hg, if_pos h0]
    have h0' : ((b.length : Int) == 30) = true := by simp [h0]
    have hb30 := (goodX_good hg).2.2.1
    clear hg h0
    obtain ⟨w0, hw0⟩ : ∃ w0, w0 = ((w.alloc (.cells #[.int .i64 kap, .bool cl, .slice bo b.length bc, .slice so s.length sc, .slice ro r.length rc] 30)).alloc (.cells #[.int .i64 0, .bool false, .slice none 0 0, .slice none 0 0, .slice none 0 0] 30)) := ⟨_, rfl⟩
    have hB0 : Below w.heap.size w w0 := by rw [hw0]; exact Below.allocS (Below.allocS (Below.refl _ _) _) _
    have XA0 : Hid (Bx w0 (w.heap.size) [.int .i64 kap, .bool cl, .slice bo b.length bc, .slice so s.length sc, .slice ro r.length rc]) := by rw [hw0]; exact Bx.alloc (Bx.new [.int .i64 kap, .bool cl, .slice bo b.length bc, .slice so s.length sc, .slice ro r.length rc] _ rfl) _
    have XR0 : Hid (Bx w0 (w.heap.size + 1) [.int .i64 0, .bool false, .slice none 0 0, .slice none 0 0, .slice none 0 0]) := by rw [hw0]; exact Bx.new [.int .i64 0, .bool false, .slice none 0 0, .slice none 0 0, .slice none 0 0] _ (by simp)
    have H0 : Hid (w0 = ((w.alloc (.cells #[.int .i64 kap, .bool cl, .slice bo b.length bc, .slice so s.length sc, .slice ro r.length rc] 30)).alloc (.cells #[.int .i64 0, .bool false, .slice none 0 0, .slice none 0 0, .slice none 0 0] 30))) := hw0
    have hs0 : w.heap.size + 1 + 1 ≤ w0.heap.size := by rw [hw0]; simp
    clear hw0
    go_enter Try.func20, Try.ntmps20
    go_wp2_with fail
    rw [← H0.out]
    refine (specGood_is kap cl bo bc b so sc s ro rc r w0 true hlb hls hlr (hz.later hB0) HG.out).mono ?_
    rintro e w1 ⟨rfl, hb1⟩
    have hB1 := hB0.trans (hb1.mono hB0.size)
    have hs1 : w.heap.size + 1 + 1 ≤ w1.heap.size := Nat.le_trans hs0 hb1.size
    have hz1 : w0.heap.size ≤ w1.heap.size := hb1.size
    have XA1 := hid (XA0.out.later hb1)
    have XR1 := hid (XR0.out.later hb1)
    clear XA0 XR0
    clear hb1
    have a0 := XA1.out.c 0 rfl
    have af0 := XA1.out.f 0 rfl
    have a1 := XA1.out.c 1 rfl
    have af1 := XA1.out.f 1 rfl
    have a2 := XA1.out.c 2 rfl
    have af2 := XA1.out.f 2 rfl
    have a3 := XA1.out.c 3 rfl
    have af3 := XA1.out.f 3 rfl
    have a4 := XA1.out.c 4 rfl
    have af4 := XA1.out.f 4 rfl
    have az := XA1.out.size
    have r0 := XR1.out.c 0 rfl
    have rf0 := XR1.out.f 0 rfl
    have r1 := XR1.out.c 1 rfl
    have rf1 := XR1.out.f 1 rfl
    have r2 := XR1.out.c 2 rfl
    have rf2 := XR1.out.f 2 rfl
    have r3 := XR1.out.c 3 rfl
    have rf3 := XR1.out.f 3 rfl
    have r4 := XR1.out.c 4 rfl
    have rf4 := XR1.out.f 4 rfl
    have rz := XR1.out.size
    go_wp2_with fail
    clear a0 af0 a1 af1 a2 af2 a3 af3 a4 af4 az r0 rf0 r1 rf1 r2 rf2 r3 rf3 r4 rf4 rz
    refine (ownBox_any kap cl bo bc b so sc s ro rc r w1 hlb hls hlr (hz.later hB1) hwf).mono ?_
    rintro e w2 ⟨⟨gb, bc1, gs, sc1, gr, rc1, rfl, hF⟩, hb2⟩
    have hB2 := hB1.trans (hb2.mono hB1.size)
    have hs2 : w.heap.size + 1 + 1 ≤ w2.heap.size := Nat.le_trans hs1 hb2.size
    have hz2 : w1.heap.size ≤ w2.heap.size := hb2.size
    have XA2 := hid (XA1.out.later hb2)
    have XR2 := hid (XR1.out.later hb2)
    clear XA1 XR1
    have F2 := hid (hF)
    clear hb2 hF
    have a0 := XA2.out.c 0 rfl
    have af0 := XA2.out.f 0 rfl
    have a1 := XA2.out.c 1 rfl
    have af1 := XA2.out.f 1 rfl
    have a2 := XA2.out.c 2 rfl
    have af2 := XA2.out.f 2 rfl
    have a3 := XA2.out.c 3 rfl
    have af3 := XA2.out.f 3 rfl
    have a4 := XA2.out.c 4 rfl
    have af4 := XA2.out.f 4 rfl
    have az := XA2.out.size
    have r0 := XR2.out.c 0 rfl
    have rf0 := XR2.out.f 0 rfl
    have r1 := XR2.out.c 1 rfl
    have rf1 := XR2.out.f 1 rfl
    have r2 := XR2.out.c 2 rfl
    have rf2 := XR2.out.f 2 rfl
    have r3 := XR2.out.c 3 rfl
    have rf3 := XR2.out.f 3 rfl
    have r4 := XR2.out.c 4 rfl
    have rf4 := XR2.out.f 4 rfl
    have rz := XR2.out.size
    go_upto_region 4 with fail
    clear a0 af0 a1 af1 a2 af2 a3 af3 a4 af4 az r0 rf0 r1 rf1 r2 rf2 r3 rf3 r4 rf4 rz
    obtain ⟨w3, hV⟩ : ∃ V, V = (((((w2.setCell ⟨w.heap.size, 0, none⟩ (.int .i64 kap)).setCell ⟨w.heap.size, 1, none⟩ (.bool cl)).setCell ⟨w.heap.size, 2, none⟩ (.slice (some ⟨gb, 0, none⟩) b.length bc1)).setCell ⟨w.heap.size, 3, none⟩ (.slice (some ⟨gs, 0, none⟩) s.length sc1)).setCell ⟨w.heap.size, 4, none⟩ (.slice (some ⟨gr, 0, none⟩) r.length rc1)) := ⟨_, rfl⟩
    have hz3 : w2.heap.size ≤ w3.heap.size := by rw [hV]; simp [World.setCell]
    have hs3 : w.heap.size + 1 + 1 ≤ w3.heap.size := Nat.le_trans hs2 hz3
    have hB3 : Below w.heap.size w w3 := by rw [hV]; exact (((((hB2.setCell (p := ⟨w.heap.size, 0, none⟩) (by dsimp only; omega) _).setCell (p := ⟨w.heap.size, 1, none⟩) (by dsimp only; omega) _).setCell (p := ⟨w.heap.size, 2, none⟩) (by dsimp only; omega) _).setCell (p := ⟨w.heap.size, 3, none⟩) (by dsimp only; omega) _).setCell (p := ⟨w.heap.size, 4, none⟩) (by dsimp only; omega) _)
    have XA3 := hid ((((((XA2.out.set 0 (.int .i64 kap)).set 1 (.bool cl)).set 2 (.slice (some ⟨gb, 0, none⟩) b.length bc1)).set 3 (.slice (some ⟨gs, 0, none⟩) s.length sc1)).set 4 (.slice (some ⟨gr, 0, none⟩) r.length rc1)))
    rw [← hV] at XA3
    have XR3 := hid ((((((XR2.out.other (a := ⟨w.heap.size, 0, none⟩) (by dsimp only; omega) (.int .i64 kap)).other (a := ⟨w.heap.size, 1, none⟩) (by dsimp only; omega) (.bool cl)).other (a := ⟨w.heap.size, 2, none⟩) (by dsimp only; omega) (.slice (some ⟨gb, 0, none⟩) b.length bc1)).other (a := ⟨w.heap.size, 3, none⟩) (by dsimp only; omega) (.slice (some ⟨gs, 0, none⟩) s.length sc1)).other (a := ⟨w.heap.size, 4, none⟩) (by dsimp only; omega) (.slice (some ⟨gr, 0, none⟩) r.length rc1)))
    rw [← hV] at XR3
    have F3 := hid ((((((F2.out.setBelow (a := ⟨w.heap.size, 0, none⟩) (by dsimp only; omega) (.int .i64 kap)).setBelow (a := ⟨w.heap.size, 1, none⟩) (by dsimp only; omega) (.bool cl)).setBelow (a := ⟨w.heap.size, 2, none⟩) (by dsimp only; omega) (.slice (some ⟨gb, 0, none⟩) b.length bc1)).setBelow (a := ⟨w.heap.size, 3, none⟩) (by dsimp only; omega) (.slice (some ⟨gs, 0, none⟩) s.length sc1)).setBelow (a := ⟨w.heap.size, 4, none⟩) (by dsimp only; omega) (.slice (some ⟨gr, 0, none⟩) r.length rc1)))
    rw [← hV] at F3
    have H3 : Hid (w3 = (((((w2.setCell ⟨w.heap.size, 0, none⟩ (.int .i64 kap)).setCell ⟨w.heap.size, 1, none⟩ (.bool cl)).setCell ⟨w.heap.size, 2, none⟩ (.slice (some ⟨gb, 0, none⟩) b.length bc1)).setCell ⟨w.heap.size, 3, none⟩ (.slice (some ⟨gs, 0, none⟩) s.length sc1)).setCell ⟨w.heap.size, 4, none⟩ (.slice (some ⟨gr, 0, none⟩) r.length rc1))) := hV
    clear hV XA2 XR2 F2
    rw [← H3.out]
    clear H3
    have a0 := XA3.out.c 0 rfl
    have af0 := XA3.out.f 0 rfl
    have a1 := XA3.out.c 1 rfl
    have af1 := XA3.out.f 1 rfl
    have a2 := XA3.out.c 2 rfl
    have af2 := XA3.out.f 2 rfl
    have a3 := XA3.out.c 3 rfl
    have af3 := XA3.out.f 3 rfl
    have a4 := XA3.out.c 4 rfl
    have af4 := XA3.out.f 4 rfl
    have az := XA3.out.size
    have r0 := XR3.out.c 0 rfl
    have rf0 := XR3.out.f 0 rfl
    have r1 := XR3.out.c 1 rfl
    have rf1 := XR3.out.f 1 rfl
    have r2 := XR3.out.c 2 rfl
    have rf2 := XR3.out.f 2 rfl
    have r3 := XR3.out.c 3 rfl
    have rf3 := XR3.out.f 3 rfl
    have r4 := XR3.out.c 4 rfl
    have rf4 := XR3.out.f 4 rfl
    have rz := XR3.out.size
    go_wp2
    refine bodyPost_ret (v := .tuple #[.agg #[.int .i64 kap, .bool cl, .slice (some ⟨gb, 0, none⟩) b.length bc1, .slice (some ⟨gs, 0, none⟩) s.length sc1, .slice (some ⟨gr, 0, none⟩) r.length rc1], .int .i64 3]) (by simp [results, Try.results20, go_sem, r0, r1, r2, r3, r4]) rfl ?_
    rw [HR.out]
    exact ⟨⟨_, _, _, _, _, _, rfl, (FrBox.wide (OBox.fr (((((F3.out.setBelow (a := ⟨w.heap.size + 1, 0, none⟩) (by dsimp only; omega) _).setBelow (a := ⟨w.heap.size + 1, 1, none⟩) (by dsimp only; omega) _).setBelow (a := ⟨w.heap.size + 1, 2, none⟩) (by dsimp only; omega) _).setBelow (a := ⟨w.heap.size + 1, 3, none⟩) (by dsimp only; omega) _).setBelow (a := ⟨w.heap.size + 1, 4, none⟩) (by dsimp only; omega) _)) (by omega) (Nat.le_refl _)).low (Nat.le_refl _)⟩, (((((hB3.setCell (p := ⟨w.heap.size + 1, 0, none⟩) (by dsimp only; omega) _).setCell (p := ⟨w.heap.size + 1, 1, none⟩) (by dsimp only; omega) _).setCell (p := ⟨w.heap.size + 1, 2, none⟩) (by dsimp only; omega) _).setCell (p := ⟨w.heap.size + 1, 3, none⟩) (by dsimp only; omega) _).setCell (p := ⟨w.heap.size + 1, 4, none⟩) (by dsimp only; omega) _)⟩
  · have HR : Hid (sysR kap cl b s r iv = (kap, cl, b ++ [iv], s, r, 0)) := by rw [Hid, sysR, if_pos hg, if_neg h0]
    have h0' : ((b.length : Int) == 30) = false := by simp; omega
    have hb30 := (goodX_good hg).2.2.1
    clear hg h0
    obtain ⟨w0, hw0⟩ : ∃ w0, w0 = ((w.alloc (.cells #[.int .i64 kap, .bool cl, .slice bo b.length bc, .slice so s.length sc, .slice ro r.length rc] 30)).alloc (.cells #[.int .i64 0, .bool false, .slice none 0 0, .slice none 0 0, .slice none 0 0] 30)) := ⟨_, rfl⟩
    have hB0 : Below w.heap.size w w0 := by rw [hw0]; exact Below.allocS (Below.allocS (Below.refl _ _) _) _
    have XA0 : Hid (Bx w0 (w.heap.size) [.int .i64 kap, .bool cl, .slice bo b.length bc, .slice so s.length sc, .slice ro r.length rc]) := by rw [hw0]; exact Bx.alloc (Bx.new [.int .i64 kap, .bool cl, .slice bo b.length bc, .slice so s.length sc, .slice ro r.length rc] _ rfl) _
    have XR0 : Hid (Bx w0 (w.heap.size + 1) [.int .i64 0, .bool false, .slice none 0 0, .slice none 0 0, .slice none 0 0]) := by rw [hw0]; exact Bx.new [.int .i64 0, .bool false, .slice none 0 0, .slice none 0 0, .slice none 0 0] _ (by simp)
    have H0 : Hid (w0 = ((w.alloc (.cells #[.int .i64 kap, .bool cl, .slice bo b.length bc, .slice so s.length sc, .slice ro r.length rc] 30)).alloc (.cells #[.int .i64 0, .bool false, .slice none 0 0, .slice none 0 0, .slice none 0 0] 30))) := hw0
    have hs0 : w.heap.size + 1 + 1 ≤ w0.heap.size := by rw [hw0]; simp
    clear hw0
    go_enter Try.func20, Try.ntmps20
    go_wp2_with fail
    rw [← H0.out]
    refine (specGood_is kap cl bo bc b so sc s ro rc r w0 true hlb hls hlr (hz.later hB0) HG.out).mono ?_
    rintro e w1 ⟨rfl, hb1⟩
    have hB1 := hB0.trans (hb1.mono hB0.size)
    have hs1 : w.heap.size + 1 + 1 ≤ w1.heap.size := Nat.le_trans hs0 hb1.size
    have hz1 : w0.heap.size ≤ w1.heap.size := hb1.size
    have XA1 := hid (XA0.out.later hb1)
    have XR1 := hid (XR0.out.later hb1)
    clear XA0 XR0
    clear hb1
    have a0 := XA1.out.c 0 rfl
    have af0 := XA1.out.f 0 rfl
    have a1 := XA1.out.c 1 rfl
    have af1 := XA1.out.f 1 rfl
    have a2 := XA1.out.c 2 rfl
    have af2 := XA1.out.f 2 rfl
    have a3 := XA1.out.c 3 rfl
    have af3 := XA1.out.f 3 rfl
    have a4 := XA1.out.c 4 rfl
    have af4 := XA1.out.f 4 rfl
    have az := XA1.out.size
    have r0 := XR1.out.c 0 rfl
    have rf0 := XR1.out.f 0 rfl
    have r1 := XR1.out.c 1 rfl
    have rf1 := XR1.out.f 1 rfl
    have r2 := XR1.out.c 2 rfl
    have rf2 := XR1.out.f 2 rfl
    have r3 := XR1.out.c 3 rfl
    have rf3 := XR1.out.f 3 rfl
    have r4 := XR1.out.c 4 rfl
    have rf4 := XR1.out.f 4 rfl
    have rz := XR1.out.size
    go_wp2_with fail
    clear a0 af0 a1 af1 a2 af2 a3 af3 a4 af4 az r0 rf0 r1 rf1 r2 rf2 r3 rf3 r4 rf4 rz
    refine (ownBox_any kap cl bo bc b so sc s ro rc r w1 hlb hls hlr (hz.later hB1) hwf).mono ?_
    rintro e w2 ⟨⟨gb, bc1, gs, sc1, gr, rc1, rfl, hF⟩, hb2⟩
    have hB2 := hB1.trans (hb2.mono hB1.size)
    have hs2 : w.heap.size + 1 + 1 ≤ w2.heap.size := Nat.le_trans hs1 hb2.size
    have hz2 : w1.heap.size ≤ w2.heap.size := hb2.size
    have XA2 := hid (XA1.out.later hb2)
    have XR2 := hid (XR1.out.later hb2)
    clear XA1 XR1
    have F2 := hid (hF)
    clear hb2 hF
    have a0 := XA2.out.c 0 rfl
    have af0 := XA2.out.f 0 rfl
    have a1 := XA2.out.c 1 rfl
    have af1 := XA2.out.f 1 rfl
    have a2 := XA2.out.c 2 rfl
    have af2 := XA2.out.f 2 rfl
    have a3 := XA2.out.c 3 rfl
    have af3 := XA2.out.f 3 rfl
    have a4 := XA2.out.c 4 rfl
    have af4 := XA2.out.f 4 rfl
    have az := XA2.out.size
    have r0 := XR2.out.c 0 rfl
    have rf0 := XR2.out.f 0 rfl
    have r1 := XR2.out.c 1 rfl
    have rf1 := XR2.out.f 1 rfl
    have r2 := XR2.out.c 2 rfl
    have rf2 := XR2.out.f 2 rfl
    have r3 := XR2.out.c 3 rfl
    have rf3 := XR2.out.f 3 rfl
    have r4 := XR2.out.c 4 rfl
    have rf4 := XR2.out.f 4 rfl
    have rz := XR2.out.size
    go_upto_region 6 with fail
    clear a0 af0 a1 af1 a2 af2 a3 af3 a4 af4 az r0 rf0 r1 rf1 r2 rf2 r3 rf3 r4 rf4 rz
    obtain ⟨w3, hV⟩ : ∃ V, V = (((((w2.setCell ⟨w.heap.size, 0, none⟩ (.int .i64 kap)).setCell ⟨w.heap.size, 1, none⟩ (.bool cl)).setCell ⟨w.heap.size, 2, none⟩ (.slice (some ⟨gb, 0, none⟩) b.length bc1)).setCell ⟨w.heap.size, 3, none⟩ (.slice (some ⟨gs, 0, none⟩) s.length sc1)).setCell ⟨w.heap.size, 4, none⟩ (.slice (some ⟨gr, 0, none⟩) r.length rc1)) := ⟨_, rfl⟩
    have hz3 : w2.heap.size ≤ w3.heap.size := by rw [hV]; simp [World.setCell]
    have hs3 : w.heap.size + 1 + 1 ≤ w3.heap.size := Nat.le_trans hs2 hz3
    have hB3 : Below w.heap.size w w3 := by rw [hV]; exact (((((hB2.setCell (p := ⟨w.heap.size, 0, none⟩) (by dsimp only; omega) _).setCell (p := ⟨w.heap.size, 1, none⟩) (by dsimp only; omega) _).setCell (p := ⟨w.heap.size, 2, none⟩) (by dsimp only; omega) _).setCell (p := ⟨w.heap.size, 3, none⟩) (by dsimp only; omega) _).setCell (p := ⟨w.heap.size, 4, none⟩) (by dsimp only; omega) _)
    have XA3 := hid ((((((XA2.out.set 0 (.int .i64 kap)).set 1 (.bool cl)).set 2 (.slice (some ⟨gb, 0, none⟩) b.length bc1)).set 3 (.slice (some ⟨gs, 0, none⟩) s.length sc1)).set 4 (.slice (some ⟨gr, 0, none⟩) r.length rc1)))
    rw [← hV] at XA3
    have XR3 := hid ((((((XR2.out.other (a := ⟨w.heap.size, 0, none⟩) (by dsimp only; omega) (.int .i64 kap)).other (a := ⟨w.heap.size, 1, none⟩) (by dsimp only; omega) (.bool cl)).other (a := ⟨w.heap.size, 2, none⟩) (by dsimp only; omega) (.slice (some ⟨gb, 0, none⟩) b.length bc1)).other (a := ⟨w.heap.size, 3, none⟩) (by dsimp only; omega) (.slice (some ⟨gs, 0, none⟩) s.length sc1)).other (a := ⟨w.heap.size, 4, none⟩) (by dsimp only; omega) (.slice (some ⟨gr, 0, none⟩) r.length rc1)))
    rw [← hV] at XR3
    have F3 := hid ((((((F2.out.setBelow (a := ⟨w.heap.size, 0, none⟩) (by dsimp only; omega) (.int .i64 kap)).setBelow (a := ⟨w.heap.size, 1, none⟩) (by dsimp only; omega) (.bool cl)).setBelow (a := ⟨w.heap.size, 2, none⟩) (by dsimp only; omega) (.slice (some ⟨gb, 0, none⟩) b.length bc1)).setBelow (a := ⟨w.heap.size, 3, none⟩) (by dsimp only; omega) (.slice (some ⟨gs, 0, none⟩) s.length sc1)).setBelow (a := ⟨w.heap.size, 4, none⟩) (by dsimp only; omega) (.slice (some ⟨gr, 0, none⟩) r.length rc1)))
    rw [← hV] at F3
    have H3 : Hid (w3 = (((((w2.setCell ⟨w.heap.size, 0, none⟩ (.int .i64 kap)).setCell ⟨w.heap.size, 1, none⟩ (.bool cl)).setCell ⟨w.heap.size, 2, none⟩ (.slice (some ⟨gb, 0, none⟩) b.length bc1)).setCell ⟨w.heap.size, 3, none⟩ (.slice (some ⟨gs, 0, none⟩) s.length sc1)).setCell ⟨w.heap.size, 4, none⟩ (.slice (some ⟨gr, 0, none⟩) r.length rc1))) := hV
    clear hV XA2 XR2 F2
    rw [← H3.out]
    clear H3
    have a0 := XA3.out.c 0 rfl
    have af0 := XA3.out.f 0 rfl
    have a1 := XA3.out.c 1 rfl
    have af1 := XA3.out.f 1 rfl
    have a2 := XA3.out.c 2 rfl
    have af2 := XA3.out.f 2 rfl
    have a3 := XA3.out.c 3 rfl
    have af3 := XA3.out.f 3 rfl
    have a4 := XA3.out.c 4 rfl
    have af4 := XA3.out.f 4 rfl
    have az := XA3.out.size
    have r0 := XR3.out.c 0 rfl
    have rf0 := XR3.out.f 0 rfl
    have r1 := XR3.out.c 1 rfl
    have rf1 := XR3.out.f 1 rfl
    have r2 := XR3.out.c 2 rfl
    have rf2 := XR3.out.f 2 rfl
    have r3 := XR3.out.c 3 rfl
    have rf3 := XR3.out.f 3 rfl
    have r4 := XR3.out.c 4 rfl
    have rf4 := XR3.out.f 4 rfl
    have rz := XR3.out.size
    have FA := hid (F3.out.below (below1 w3 (.cells #[.int .i64 iv] 3)))
    have HN : Hid (kI.In (w3.heap.size + 1) (w3.alloc (.cells #[.int .i64 iv] 3)) (some ⟨w3.heap.size, 0, none⟩) [iv]) := int_one (by omega) (by simp)
    obtain ⟨zs, hzs⟩ : ∃ zs, zs = b ++ [iv] := ⟨_, rfl⟩
    have HZS : Hid (zs = b ++ [iv]) := hzs
    clear hzs
    have XAA := hid (XA3.out.alloc (.cells #[.int .i64 iv] 3))
    have XAR := hid (XR3.out.alloc (.cells #[.int .i64 iv] 3))
    have hBA : Below w.heap.size w (w3.alloc (.cells #[.int .i64 iv] 3)) := Below.allocS hB3 _
    go_wp2_with (at_builtin; have hga := own_at F3.out.1; refine Kind.appO kI_ok (w3.alloc (.cells #[.int .i64 iv] 3)) rfl (.tmp 18) (.tmp 20) rfl (w1.heap.size) gb b.length bc1 b rfl FA.out.1 (by simp <;> omega) (some ⟨w3.heap.size, 0, none⟩) [iv] 1 1 rfl rfl (by simp) _ HN.out (by simp <;> omega) zs HZS.out ?_; intro g' c' w4 hO hB hG hw; have hB4 : Below w.heap.size w w4 := hBA.trans (hB.mono (by omega)); have hz4 : w3.heap.size ≤ w4.heap.size := (by have := hB.size; simp at this; omega); have hs4 : w.heap.size + 1 + 1 ≤ w4.heap.size := (by omega); have XA4 := hid (XAA.out.grown hG (by omega)); have XR4 := hid (XAR.out.grown hG (by omega)); have F4 := hid (OBox.put0 FA.out hO hG hw); clear hO hB hG hw HN FA hBA hga XAA XA3 XAR XR3 a0 af0 a1 af1 a2 af2 a3 af3 a4 af4 az r0 rf0 r1 rf1 r2 rf2 r3 rf3 r4 rf4 rz; have a0 := XA4.out.c 0 rfl; have af0 := XA4.out.f 0 rfl; have a1 := XA4.out.c 1 rfl; have af1 := XA4.out.f 1 rfl; have a2 := XA4.out.c 2 rfl; have af2 := XA4.out.f 2 rfl; have a3 := XA4.out.c 3 rfl; have af3 := XA4.out.f 3 rfl; have a4 := XA4.out.c 4 rfl; have af4 := XA4.out.f 4 rfl; have az := XA4.out.size; have r0 := XR4.out.c 0 rfl; have rf0 := XR4.out.f 0 rfl; have r1 := XR4.out.c 1 rfl; have rf1 := XR4.out.f 1 rfl; have r2 := XR4.out.c 2 rfl; have rf2 := XR4.out.f 2 rfl; have r3 := XR4.out.c 3 rfl; have rf3 := XR4.out.f 3 rfl; have r4 := XR4.out.c 4 rfl; have rf4 := XR4.out.f 4 rfl; have rz := XR4.out.size)
    refine bodyPost_ret (v := .tuple #[.agg #[.int .i64 kap, .bool cl, (.slice (some ⟨g', 0, none⟩) zs.length c'), .slice (some ⟨gs, 0, none⟩) s.length sc1, .slice (some ⟨gr, 0, none⟩) r.length rc1], .int .i64 0]) (by simp [results, Try.results20, go_sem, r0, r1, r2, r3, r4]) rfl ?_
    rw [HR.out, ← HZS.out]
    exact ⟨⟨_, _, _, _, _, _, rfl, (FrBox.wide (OBox.fr ((((((F4.out.setBelow (a := ⟨w.heap.size, 2, none⟩) (by dsimp only; omega) _).setBelow (a := ⟨w.heap.size + 1, 0, none⟩) (by dsimp only; omega) _).setBelow (a := ⟨w.heap.size + 1, 1, none⟩) (by dsimp only; omega) _).setBelow (a := ⟨w.heap.size + 1, 2, none⟩) (by dsimp only; omega) _).setBelow (a := ⟨w.heap.size + 1, 3, none⟩) (by dsimp only; omega) _).setBelow (a := ⟨w.heap.size + 1, 4, none⟩) (by dsimp only; omega) _)) (by omega) (Nat.le_refl _)).low (Nat.le_refl _)⟩, ((((((hB4.setCell (p := ⟨w.heap.size, 2, none⟩) (by dsimp only; omega) _).setCell (p := ⟨w.heap.size + 1, 0, none⟩) (by dsimp only; omega) _).setCell (p := ⟨w.heap.size + 1, 1, none⟩) (by dsimp only; omega) _).setCell (p := ⟨w.heap.size + 1, 2, none⟩) (by dsimp only; omega) _).setCell (p := ⟨w.heap.size + 1, 3, none⟩) (by dsimp only; omega) _).setCell (p := ⟨w.heap.size + 1, 4, none⟩) (by dsimp only; omega) _)⟩
end Go.Proofs.Ytafhidlianafhaa
