
/- The law of letters: it returns true. No conditions but those written. -/
import Derived.Test.YtnnlbnbamhkcaaaXn
namespace Go.Proofs.Ytnnlbnbamhkcaaa
open Go.RowKit

set_option maxRecDepth 100000 in
set_option maxHeartbeats 16000000 in
theorem lawLetters_any (co : Option Addr) (cap : Nat) (bs : List Int) (w : World) (hl : bs.length ≤ 9223372036854775807) (hb : BytesIn w.heap.size w co bs) :
    Calls Try.prog 3 #[.slice co bs.length cap] w fun e w' => e = .returned (.bool true) ∧ Below w.heap.size w w' := by
  by_cases hn : bs.length ≤ 1048576
  case neg =>
    have hn' : decide (1048576 < (bs.length : Int)) = true := by simp; omega
    go_enter Try.func3, Try.ntmps3
    go_wp2
    go_ret
    exact ⟨rfl, Below.refl _ _⟩
  have hn' : decide (1048576 < (bs.length : Int)) = false := by simp; omega
  have hB0 : Below w.heap.size w w := Below.refl _ _
  have hs0 : w.heap.size ≤ w.heap.size := Nat.le_refl _
  go_enter Try.func3, Try.ntmps3
  go_wp2_with fail
  refine (drawTake_any co cap bs w hn hb).mono ?_
  rintro e w1 ⟨⟨kap, cl, bo, bc, b, so, sc, s, ro, rc, r, rfl, hM, hD⟩, hb1⟩
  have hB1 := hB0.trans (hb1.mono hB0.size)
  have hs1 : w.heap.size ≤ w1.heap.size := Nat.le_trans hs0 hb1.size
  have hz1 : w.heap.size ≤ w1.heap.size := hb1.size
  have D1 := hid (hD)
  clear hb1 hD
  obtain ⟨m1, m2, m3⟩ := hM
  obtain ⟨Rk, Rcl, Rb, Rs, Rr, Rx, R1, R2, R3, Rc, hR⟩ : ∃ Rk Rcl Rb Rs Rr Rx R1 R2 R3 Rc, takeR kap cl b s r = (Rk, Rcl, Rb, Rs, Rr, Rx, R1, R2, R3, Rc) := ⟨_, _, _, _, _, _, _, _, _, _, rfl⟩
  have HR := hid hR
  have hq := takeR_len (kap := kap) (cl := cl) (show b.length ≤ 1048576 by omega) (show s.length ≤ 1048576 by omega) (show r.length ≤ 1048576 by omega)
  rw [hR] at hq
  dsimp only at hq
  clear hR
  obtain ⟨w2, hV⟩ : ∃ V, V = w1.alloc (.cells #[.int .i64 kap, .bool cl, .slice bo b.length bc, .slice so s.length sc, .slice ro r.length rc] 26) := ⟨_, rfl⟩
  have hz2 : w1.heap.size ≤ w2.heap.size := by rw [hV]; simp
  have hs2 : w.heap.size ≤ w2.heap.size := Nat.le_trans hs1 hz2
  have hB2 : Below w.heap.size w w2 := by rw [hV]; exact Below.allocS hB1 _
  have D2 := hid (D1.out.later (below1 w1 (.cells #[.int .i64 kap, .bool cl, .slice bo b.length bc, .slice so s.length sc, .slice ro r.length rc] 26)))
  rw [← hV] at D2
  have H2 : Hid (w2 = w1.alloc (.cells #[.int .i64 kap, .bool cl, .slice bo b.length bc, .slice so s.length sc, .slice ro r.length rc] 26)) := hV
  clear hV D1
  have XX2 : Hid (Bx w2 w1.heap.size [.int .i64 kap, .bool cl, .slice bo b.length bc, .slice so s.length sc, .slice ro r.length rc]) := by rw [H2.out]; exact Bx.new [.int .i64 kap, .bool cl, .slice bo b.length bc, .slice so s.length sc, .slice ro r.length rc] _ rfl
  have hy2 : w1.heap.size < w2.heap.size := XX2.out.size
  go_wp2_with fail
  rw [← H2.out]
  refine (implTake_as kap cl bo bc b so sc s ro rc r Rk Rcl Rb Rs Rr Rx R1 R2 R3 Rc w2 (by omega) (by omega) (by omega) D2.out.all.2 HR.out).mono ?_
  rintro e w3 ⟨⟨bo1, bc1, so1, sc1, ro1, rc1, rfl, hF⟩, hb3⟩
  have hB3 := hB2.trans (hb3.mono hB2.size)
  have hs3 : w.heap.size ≤ w3.heap.size := Nat.le_trans hs2 hb3.size
  have hz3 : w2.heap.size ≤ w3.heap.size := hb3.size
  have XX3 := hid (XX2.out.later hb3)
  have D3 := hid (D2.out.later hb3)
  clear XX2 D2
  have F3 := hid (hF)
  clear hb3 hF
  have x0 := XX3.out.c 0 rfl
  have xf0 := XX3.out.f 0 rfl
  have x1 := XX3.out.c 1 rfl
  have xf1 := XX3.out.f 1 rfl
  have x2 := XX3.out.c 2 rfl
  have xf2 := XX3.out.f 2 rfl
  have x3 := XX3.out.c 3 rfl
  have xf3 := XX3.out.f 3 rfl
  have x4 := XX3.out.c 4 rfl
  have xf4 := XX3.out.f 4 rfl
  have xz := XX3.out.size
  obtain ⟨w4, hV⟩ : ∃ V, V = ((w3.alloc (.cells #[.int .i64 Rk, .bool Rcl, .slice bo1 Rb.length bc1, .slice so1 Rs.length sc1, .slice ro1 Rr.length rc1] 26)).alloc (.cells #[.int .i64 R1, .int .i64 R2, .int .i64 R3] 29)) := ⟨_, rfl⟩
  have hz4 : w3.heap.size ≤ w4.heap.size := by rw [hV]; simp; omega
  have hs4 : w.heap.size ≤ w4.heap.size := Nat.le_trans hs3 hz4
  have hB4 : Below w.heap.size w w4 := by rw [hV]; exact Below.allocS (Below.allocS hB3 _) _
  have XX4 := hid ((XX3.out.alloc (.cells #[.int .i64 Rk, .bool Rcl, .slice bo1 Rb.length bc1, .slice so1 Rs.length sc1, .slice ro1 Rr.length rc1] 26)).alloc (.cells #[.int .i64 R1, .int .i64 R2, .int .i64 R3] 29))
  rw [← hV] at XX4
  have D4 := hid (D3.out.later (below2 w3 (.cells #[.int .i64 Rk, .bool Rcl, .slice bo1 Rb.length bc1, .slice so1 Rs.length sc1, .slice ro1 Rr.length rc1] 26) (.cells #[.int .i64 R1, .int .i64 R2, .int .i64 R3] 29)))
  rw [← hV] at D4
  have F4 := hid (F3.out.later (below2 w3 (.cells #[.int .i64 Rk, .bool Rcl, .slice bo1 Rb.length bc1, .slice so1 Rs.length sc1, .slice ro1 Rr.length rc1] 26) (.cells #[.int .i64 R1, .int .i64 R2, .int .i64 R3] 29)))
  rw [← hV] at F4
  have H4 : Hid (w4 = ((w3.alloc (.cells #[.int .i64 Rk, .bool Rcl, .slice bo1 Rb.length bc1, .slice so1 Rs.length sc1, .slice ro1 Rr.length rc1] 26)).alloc (.cells #[.int .i64 R1, .int .i64 R2, .int .i64 R3] 29))) := hV
  clear hV XX3 D3 F3
  have XY4 : Hid (Bx w4 w3.heap.size [.int .i64 Rk, .bool Rcl, .slice bo1 Rb.length bc1, .slice so1 Rs.length sc1, .slice ro1 Rr.length rc1]) := by rw [H4.out]; exact Bx.alloc (Bx.new [.int .i64 Rk, .bool Rcl, .slice bo1 Rb.length bc1, .slice so1 Rs.length sc1, .slice ro1 Rr.length rc1] _ rfl) _
  have XL4 : Hid (Bx w4 (w3.heap.size + 1) [.int .i64 R1, .int .i64 R2, .int .i64 R3]) := by rw [H4.out]; exact Bx.new [.int .i64 R1, .int .i64 R2, .int .i64 R3] _ (by simp)
  have hy4 : w3.heap.size + 1 < w4.heap.size := XL4.out.size
  go_wp2_with fail
  clear x0 xf0 x1 xf1 x2 xf2 x3 xf3 x4 xf4 xz
  rw [← H4.out]
  refine (specTake_as kap cl bo bc b so sc s ro rc r Rk Rcl Rb Rs Rr Rx R1 R2 R3 Rc w4 (by omega) (by omega) (by omega) D4.out.all.2 D4.out.all.1 HR.out).mono ?_
  rintro e w5 ⟨⟨bo2, bc2, so2, sc2, ro2, rc2, rfl, hG⟩, hb5⟩
  have hB5 := hB4.trans (hb5.mono hB4.size)
  have hs5 : w.heap.size ≤ w5.heap.size := Nat.le_trans hs4 hb5.size
  have hz5 : w4.heap.size ≤ w5.heap.size := hb5.size
  have XX5 := hid (XX4.out.later hb5)
  have XY5 := hid (XY4.out.later hb5)
  have XL5 := hid (XL4.out.later hb5)
  have D5 := hid (D4.out.later hb5)
  have F5 := hid (F4.out.later hb5)
  clear XX4 XY4 XL4 D4 F4
  clear hb5 hG
  have x0 := XX5.out.c 0 rfl
  have xf0 := XX5.out.f 0 rfl
  have x1 := XX5.out.c 1 rfl
  have xf1 := XX5.out.f 1 rfl
  have x2 := XX5.out.c 2 rfl
  have xf2 := XX5.out.f 2 rfl
  have x3 := XX5.out.c 3 rfl
  have xf3 := XX5.out.f 3 rfl
  have x4 := XX5.out.c 4 rfl
  have xf4 := XX5.out.f 4 rfl
  have xz := XX5.out.size
  have y0 := XY5.out.c 0 rfl
  have yf0 := XY5.out.f 0 rfl
  have y1 := XY5.out.c 1 rfl
  have yf1 := XY5.out.f 1 rfl
  have y2 := XY5.out.c 2 rfl
  have yf2 := XY5.out.f 2 rfl
  have y3 := XY5.out.c 3 rfl
  have yf3 := XY5.out.f 3 rfl
  have y4 := XY5.out.c 4 rfl
  have yf4 := XY5.out.f 4 rfl
  have yz := XY5.out.size
  have l0 := XL5.out.c 0 rfl
  have lf0 := XL5.out.f 0 rfl
  have l1 := XL5.out.c 1 rfl
  have lf1 := XL5.out.f 1 rfl
  have l2 := XL5.out.c 2 rfl
  have lf2 := XL5.out.f 2 rfl
  have lz := XL5.out.size
  obtain ⟨w6, hV⟩ : ∃ V, V = ((w5.alloc (.cells #[.int .i64 Rk, .bool Rcl, .slice bo2 Rb.length bc2, .slice so2 Rs.length sc2, .slice ro2 Rr.length rc2] 26)).alloc (.cells #[.int .i64 R1, .int .i64 R2, .int .i64 R3] 29)) := ⟨_, rfl⟩
  have hz6 : w5.heap.size ≤ w6.heap.size := by rw [hV]; simp; omega
  have hs6 : w.heap.size ≤ w6.heap.size := Nat.le_trans hs5 hz6
  have hB6 : Below w.heap.size w w6 := by rw [hV]; exact Below.allocS (Below.allocS hB5 _) _
  have XX6 := hid ((XX5.out.alloc (.cells #[.int .i64 Rk, .bool Rcl, .slice bo2 Rb.length bc2, .slice so2 Rs.length sc2, .slice ro2 Rr.length rc2] 26)).alloc (.cells #[.int .i64 R1, .int .i64 R2, .int .i64 R3] 29))
  rw [← hV] at XX6
  have XY6 := hid ((XY5.out.alloc (.cells #[.int .i64 Rk, .bool Rcl, .slice bo2 Rb.length bc2, .slice so2 Rs.length sc2, .slice ro2 Rr.length rc2] 26)).alloc (.cells #[.int .i64 R1, .int .i64 R2, .int .i64 R3] 29))
  rw [← hV] at XY6
  have XL6 := hid ((XL5.out.alloc (.cells #[.int .i64 Rk, .bool Rcl, .slice bo2 Rb.length bc2, .slice so2 Rs.length sc2, .slice ro2 Rr.length rc2] 26)).alloc (.cells #[.int .i64 R1, .int .i64 R2, .int .i64 R3] 29))
  rw [← hV] at XL6
  have D6 := hid (D5.out.later (below2 w5 (.cells #[.int .i64 Rk, .bool Rcl, .slice bo2 Rb.length bc2, .slice so2 Rs.length sc2, .slice ro2 Rr.length rc2] 26) (.cells #[.int .i64 R1, .int .i64 R2, .int .i64 R3] 29)))
  rw [← hV] at D6
  have F6 := hid (F5.out.later (below2 w5 (.cells #[.int .i64 Rk, .bool Rcl, .slice bo2 Rb.length bc2, .slice so2 Rs.length sc2, .slice ro2 Rr.length rc2] 26) (.cells #[.int .i64 R1, .int .i64 R2, .int .i64 R3] 29)))
  rw [← hV] at F6
  have H6 : Hid (w6 = ((w5.alloc (.cells #[.int .i64 Rk, .bool Rcl, .slice bo2 Rb.length bc2, .slice so2 Rs.length sc2, .slice ro2 Rr.length rc2] 26)).alloc (.cells #[.int .i64 R1, .int .i64 R2, .int .i64 R3] 29))) := hV
  clear hV XX5 XY5 XL5 D5 F5
  have XV6 : Hid (Bx w6 w5.heap.size [.int .i64 Rk, .bool Rcl, .slice bo2 Rb.length bc2, .slice so2 Rs.length sc2, .slice ro2 Rr.length rc2]) := by rw [H6.out]; exact Bx.alloc (Bx.new [.int .i64 Rk, .bool Rcl, .slice bo2 Rb.length bc2, .slice so2 Rs.length sc2, .slice ro2 Rr.length rc2] _ rfl) _
  have XM6 : Hid (Bx w6 (w5.heap.size + 1) [.int .i64 R1, .int .i64 R2, .int .i64 R3]) := by rw [H6.out]; exact Bx.new [.int .i64 R1, .int .i64 R2, .int .i64 R3] _ (by simp)
  have hy6 : w5.heap.size + 1 < w6.heap.size := XM6.out.size
  have hce : (Rc != Rc) = false := by simp
  by_cases hc : Rc = 0
  case neg =>
    have hc1 : (Rc != 0) = true := by simpa using hc
    go_wp2
    go_ret
    exact ⟨rfl, by rw [← H6.out]; exact hB6⟩
  subst hc
  by_cases hb0 : b.length = 0
  case neg =>
    have hb1 : decide (0 < (b.length : Int)) = true := by simp; omega
    go_wp2
    go_ret
    exact ⟨rfl, by rw [← H6.out]; exact hB6⟩
  have hb1 : decide (0 < (b.length : Int)) = false := by rw [hb0]; rfl
  have hb2 : decide (0 < b.length) = false := decide_eq_false (by omega)
  have hb3 : ¬ 0 < b.length := by omega
  obtain ⟨q, q2, q3, Gk, Gcl, Gb, Z, N, Ek, Ecl, Eb, Ds, Dr, e1, e2, l12, hmem, e4, g4, l4, lN, e5, e6, l6, e7, lq, lGb, lEb, lDs, lDr⟩ := letters_all HR.out hb0
  have E1 := hid e1
  have E2 := hid e2
  have E4 := hid e4
  have G4 := hid g4
  have E5 := hid e5
  have E6 := hid e6
  have E7 := hid e7
  have HM := hid hmem
  clear e1 e2 e4 g4 e5 e6 e7 hmem hb0
  have lq2 : q2.length ≤ 30 := by omega
  have lq3 : q3.length ≤ 30 := by omega
  have lZ : Z.length ≤ 30 := by omega
  have lNn : N.length ≤ 30 := by omega
  have L12 := hid l12
  have L4 := hid l4
  have LN := hid lN
  have L6 := hid l6
  clear l12 l4 lN l6
  go_wp2_with fail
  clear x0 xf0 x1 xf1 x2 xf2 x3 xf3 x4 xf4 xz y0 yf0 y1 yf1 y2 yf2 y3 yf3 y4 yf4 yz l0 lf0 l1 lf1 l2 lf2 lz
  rw [← H6.out]
  refine (implIn_as kap cl bo bc b so sc s ro rc r q true w6 (by omega) (by omega) (by omega) D6.out.all.2 E1.out).mono ?_
  rintro e w7 ⟨⟨qo, qc, rfl, hQ⟩, hb7⟩
  have hB7 := hB6.trans (hb7.mono hB6.size)
  have hs7 : w.heap.size ≤ w7.heap.size := Nat.le_trans hs6 hb7.size
  have hz7 : w6.heap.size ≤ w7.heap.size := hb7.size
  have XX7 := hid (XX6.out.later hb7)
  have XY7 := hid (XY6.out.later hb7)
  have XL7 := hid (XL6.out.later hb7)
  have XV7 := hid (XV6.out.later hb7)
  have XM7 := hid (XM6.out.later hb7)
  have D7 := hid (D6.out.later hb7)
  have F7 := hid (F6.out.later hb7)
  clear XX6 XY6 XL6 XV6 XM6 D6 F6
  have Q7 := hid (hQ)
  clear hb7 hQ
  have x0 := XX7.out.c 0 rfl
  have xf0 := XX7.out.f 0 rfl
  have x1 := XX7.out.c 1 rfl
  have xf1 := XX7.out.f 1 rfl
  have x2 := XX7.out.c 2 rfl
  have xf2 := XX7.out.f 2 rfl
  have x3 := XX7.out.c 3 rfl
  have xf3 := XX7.out.f 3 rfl
  have x4 := XX7.out.c 4 rfl
  have xf4 := XX7.out.f 4 rfl
  have xz := XX7.out.size
  have y0 := XY7.out.c 0 rfl
  have yf0 := XY7.out.f 0 rfl
  have y1 := XY7.out.c 1 rfl
  have yf1 := XY7.out.f 1 rfl
  have y2 := XY7.out.c 2 rfl
  have yf2 := XY7.out.f 2 rfl
  have y3 := XY7.out.c 3 rfl
  have yf3 := XY7.out.f 3 rfl
  have y4 := XY7.out.c 4 rfl
  have yf4 := XY7.out.f 4 rfl
  have yz := XY7.out.size
  have l0 := XL7.out.c 0 rfl
  have lf0 := XL7.out.f 0 rfl
  have l1 := XL7.out.c 1 rfl
  have lf1 := XL7.out.f 1 rfl
  have l2 := XL7.out.c 2 rfl
  have lf2 := XL7.out.f 2 rfl
  have lz := XL7.out.size
  have v0 := XV7.out.c 0 rfl
  have vf0 := XV7.out.f 0 rfl
  have v1 := XV7.out.c 1 rfl
  have vf1 := XV7.out.f 1 rfl
  have v2 := XV7.out.c 2 rfl
  have vf2 := XV7.out.f 2 rfl
  have v3 := XV7.out.c 3 rfl
  have vf3 := XV7.out.f 3 rfl
  have v4 := XV7.out.c 4 rfl
  have vf4 := XV7.out.f 4 rfl
  have vz := XV7.out.size
  have m0 := XM7.out.c 0 rfl
  have mf0 := XM7.out.f 0 rfl
  have m1 := XM7.out.c 1 rfl
  have mf1 := XM7.out.f 1 rfl
  have m2 := XM7.out.c 2 rfl
  have mf2 := XM7.out.f 2 rfl
  have mz := XM7.out.size
  go_wp2_with fail
  clear x0 xf0 x1 xf1 x2 xf2 x3 xf3 x4 xf4 xz y0 yf0 y1 yf1 y2 yf2 y3 yf3 y4 yf4 yz l0 lf0 l1 lf1 l2 lf2 lz v0 vf0 v1 vf1 v2 vf2 v3 vf3 v4 vf4 vz m0 mf0 m1 mf1 m2 mf2 mz
  refine (implIn_as Rk Rcl bo1 bc1 Rb so1 sc1 Rs ro1 rc1 Rr q2 true w7 (by omega) (by omega) (by omega) F7.out.in E2.out).mono ?_
  rintro e w8 ⟨⟨qo2, qc2, rfl, hQ⟩, hb8⟩
  have hB8 := hB7.trans (hb8.mono hB7.size)
  have hs8 : w.heap.size ≤ w8.heap.size := Nat.le_trans hs7 hb8.size
  have hz8 : w7.heap.size ≤ w8.heap.size := hb8.size
  have XX8 := hid (XX7.out.later hb8)
  have XY8 := hid (XY7.out.later hb8)
  have XL8 := hid (XL7.out.later hb8)
  have XV8 := hid (XV7.out.later hb8)
  have XM8 := hid (XM7.out.later hb8)
  have D8 := hid (D7.out.later hb8)
  have F8 := hid (F7.out.later hb8)
  have Q8 := hid (Q7.out.later hb8)
  clear XX7 XY7 XL7 XV7 XM7 D7 F7 Q7
  have Q28 := hid (hQ)
  clear hb8 hQ
  have l12 := L12.out
  have x0 := XX8.out.c 0 rfl
  have xf0 := XX8.out.f 0 rfl
  have x1 := XX8.out.c 1 rfl
  have xf1 := XX8.out.f 1 rfl
  have x2 := XX8.out.c 2 rfl
  have xf2 := XX8.out.f 2 rfl
  have x3 := XX8.out.c 3 rfl
  have xf3 := XX8.out.f 3 rfl
  have x4 := XX8.out.c 4 rfl
  have xf4 := XX8.out.f 4 rfl
  have xz := XX8.out.size
  have y0 := XY8.out.c 0 rfl
  have yf0 := XY8.out.f 0 rfl
  have y1 := XY8.out.c 1 rfl
  have yf1 := XY8.out.f 1 rfl
  have y2 := XY8.out.c 2 rfl
  have yf2 := XY8.out.f 2 rfl
  have y3 := XY8.out.c 3 rfl
  have yf3 := XY8.out.f 3 rfl
  have y4 := XY8.out.c 4 rfl
  have yf4 := XY8.out.f 4 rfl
  have yz := XY8.out.size
  have l0 := XL8.out.c 0 rfl
  have lf0 := XL8.out.f 0 rfl
  have l1 := XL8.out.c 1 rfl
  have lf1 := XL8.out.f 1 rfl
  have l2 := XL8.out.c 2 rfl
  have lf2 := XL8.out.f 2 rfl
  have lz := XL8.out.size
  have v0 := XV8.out.c 0 rfl
  have vf0 := XV8.out.f 0 rfl
  have v1 := XV8.out.c 1 rfl
  have vf1 := XV8.out.f 1 rfl
  have v2 := XV8.out.c 2 rfl
  have vf2 := XV8.out.f 2 rfl
  have v3 := XV8.out.c 3 rfl
  have vf3 := XV8.out.f 3 rfl
  have v4 := XV8.out.c 4 rfl
  have vf4 := XV8.out.f 4 rfl
  have vz := XV8.out.size
  have m0 := XM8.out.c 0 rfl
  have mf0 := XM8.out.f 0 rfl
  have m1 := XM8.out.c 1 rfl
  have mf1 := XM8.out.f 1 rfl
  have m2 := XM8.out.c 2 rfl
  have mf2 := XM8.out.f 2 rfl
  have mz := XM8.out.size
  go_wp2
  clear l12
  go_loop [76] (fun i => ∃ j : Nat, j ≤ q.length ∧ i = .int .i64 j) (fun i => q.length - (intOf i).toNat)
  case atStart => exact ⟨0, Nat.zero_le _, rfl⟩
  case round =>
    obtain ⟨j, hj, rfl⟩ := hrel
    by_cases hlt : j < q.length
    case pos =>
      have hQi := Q8.out.in
      obtain ⟨gb, off, rfl, hgb, hcs⟩ := ints_at hQi hlt
      have hck := hcs j hlt
      clear hcs hQi
      obtain ⟨y, ey⟩ : ∃ y, y = el q j := ⟨_, rfl⟩
      rw [← ey] at hck
      have HY := hid (show hasB q2 y = true by rw [ey]; exact HM.out j hlt)
      clear ey
      go_wp2_with fail
      refine (has_is _ qo2 qc2 q2 y w8 true (by omega) Q28.out.in HY.out).mono ?_
      rintro e wq ⟨rfl, rfl⟩
      go_wp2
      go_round
      case rel => exact ⟨j + 1, by omega, by go_num⟩
      case measure => simp [intOf]; omega
    obtain rfl : j = q.length := by omega
    clear x0 xf0 x1 xf1 x2 xf2 x3 xf3 x4 xf4 xz y0 yf0 y1 yf1 y2 yf2 y3 yf3 y4 yf4 yz l0 lf0 l1 lf1 l2 lf2 lz v0 vf0 v1 vf1 v2 vf2 v3 vf3 v4 vf4 vz m0 mf0 m1 mf1 m2 mf2 mz
    have x0 := XX8.out.c 0 rfl
    have xf0 := XX8.out.f 0 rfl
    have x1 := XX8.out.c 1 rfl
    have xf1 := XX8.out.f 1 rfl
    have x2 := XX8.out.c 2 rfl
    have xf2 := XX8.out.f 2 rfl
    have x3 := XX8.out.c 3 rfl
    have xf3 := XX8.out.f 3 rfl
    have x4 := XX8.out.c 4 rfl
    have xf4 := XX8.out.f 4 rfl
    have xz := XX8.out.size
    have y0 := XY8.out.c 0 rfl
    have yf0 := XY8.out.f 0 rfl
    have y1 := XY8.out.c 1 rfl
    have yf1 := XY8.out.f 1 rfl
    have y2 := XY8.out.c 2 rfl
    have yf2 := XY8.out.f 2 rfl
    have y3 := XY8.out.c 3 rfl
    have yf3 := XY8.out.f 3 rfl
    have y4 := XY8.out.c 4 rfl
    have yf4 := XY8.out.f 4 rfl
    have yz := XY8.out.size
    have l0 := XL8.out.c 0 rfl
    have lf0 := XL8.out.f 0 rfl
    have l1 := XL8.out.c 1 rfl
    have lf1 := XL8.out.f 1 rfl
    have l2 := XL8.out.c 2 rfl
    have lf2 := XL8.out.f 2 rfl
    have lz := XL8.out.size
    have v0 := XV8.out.c 0 rfl
    have vf0 := XV8.out.f 0 rfl
    have v1 := XV8.out.c 1 rfl
    have vf1 := XV8.out.f 1 rfl
    have v2 := XV8.out.c 2 rfl
    have vf2 := XV8.out.f 2 rfl
    have v3 := XV8.out.c 3 rfl
    have vf3 := XV8.out.f 3 rfl
    have v4 := XV8.out.c 4 rfl
    have vf4 := XV8.out.f 4 rfl
    have vz := XV8.out.size
    have m0 := XM8.out.c 0 rfl
    have mf0 := XM8.out.f 0 rfl
    have m1 := XM8.out.c 1 rfl
    have mf1 := XM8.out.f 1 rfl
    have m2 := XM8.out.c 2 rfl
    have mf2 := XM8.out.f 2 rfl
    have mz := XM8.out.size
    go_wp2_with fail
    clear x0 xf0 x1 xf1 x2 xf2 x3 xf3 x4 xf4 xz y0 yf0 y1 yf1 y2 yf2 y3 yf3 y4 yf4 yz l0 lf0 l1 lf1 l2 lf2 lz v0 vf0 v1 vf1 v2 vf2 v3 vf3 v4 vf4 vz m0 mf0 m1 mf1 m2 mf2 mz
    refine (implGive_as Rk Rcl bo1 bc1 Rb so1 sc1 Rs ro1 rc1 Rr Gk Gcl Gb Z N 0 w8 (by omega) (by omega) (by omega) F8.out.in E4.out).mono ?_
    rintro e w9 ⟨⟨bo3, bc3, so3, sc3, ro3, rc3, rfl, hU⟩, hb9⟩
    have hB9 := hB8.trans (hb9.mono hB8.size)
    have hs9 : w.heap.size ≤ w9.heap.size := Nat.le_trans hs8 hb9.size
    have hz9 : w8.heap.size ≤ w9.heap.size := hb9.size
    have XX9 := hid (XX8.out.later hb9)
    have XY9 := hid (XY8.out.later hb9)
    have XL9 := hid (XL8.out.later hb9)
    have XV9 := hid (XV8.out.later hb9)
    have XM9 := hid (XM8.out.later hb9)
    have D9 := hid (D8.out.later hb9)
    have F9 := hid (F8.out.later hb9)
    have Q9 := hid (Q8.out.later hb9)
    have Q29 := hid (Q28.out.later hb9)
    clear XX8 XY8 XL8 XV8 XM8 D8 F8 Q8 Q28
    have U9 := hid (hU)
    clear hb9 hU
    have x0 := XX9.out.c 0 rfl
    have xf0 := XX9.out.f 0 rfl
    have x1 := XX9.out.c 1 rfl
    have xf1 := XX9.out.f 1 rfl
    have x2 := XX9.out.c 2 rfl
    have xf2 := XX9.out.f 2 rfl
    have x3 := XX9.out.c 3 rfl
    have xf3 := XX9.out.f 3 rfl
    have x4 := XX9.out.c 4 rfl
    have xf4 := XX9.out.f 4 rfl
    have xz := XX9.out.size
    have y0 := XY9.out.c 0 rfl
    have yf0 := XY9.out.f 0 rfl
    have y1 := XY9.out.c 1 rfl
    have yf1 := XY9.out.f 1 rfl
    have y2 := XY9.out.c 2 rfl
    have yf2 := XY9.out.f 2 rfl
    have y3 := XY9.out.c 3 rfl
    have yf3 := XY9.out.f 3 rfl
    have y4 := XY9.out.c 4 rfl
    have yf4 := XY9.out.f 4 rfl
    have yz := XY9.out.size
    have l0 := XL9.out.c 0 rfl
    have lf0 := XL9.out.f 0 rfl
    have l1 := XL9.out.c 1 rfl
    have lf1 := XL9.out.f 1 rfl
    have l2 := XL9.out.c 2 rfl
    have lf2 := XL9.out.f 2 rfl
    have lz := XL9.out.size
    have v0 := XV9.out.c 0 rfl
    have vf0 := XV9.out.f 0 rfl
    have v1 := XV9.out.c 1 rfl
    have vf1 := XV9.out.f 1 rfl
    have v2 := XV9.out.c 2 rfl
    have vf2 := XV9.out.f 2 rfl
    have v3 := XV9.out.c 3 rfl
    have vf3 := XV9.out.f 3 rfl
    have v4 := XV9.out.c 4 rfl
    have vf4 := XV9.out.f 4 rfl
    have vz := XV9.out.size
    have m0 := XM9.out.c 0 rfl
    have mf0 := XM9.out.f 0 rfl
    have m1 := XM9.out.c 1 rfl
    have mf1 := XM9.out.f 1 rfl
    have m2 := XM9.out.c 2 rfl
    have mf2 := XM9.out.f 2 rfl
    have mz := XM9.out.size
    obtain ⟨w10, hV⟩ : ∃ V, V = w9.alloc (.cells #[.int .i64 Gk, .bool Gcl, .slice bo3 Gb.length bc3, .slice so3 Z.length sc3, .slice ro3 N.length rc3] 26) := ⟨_, rfl⟩
    have hz10 : w9.heap.size ≤ w10.heap.size := by rw [hV]; simp
    have hs10 : w.heap.size ≤ w10.heap.size := Nat.le_trans hs9 hz10
    have hB10 : Below w.heap.size w w10 := by rw [hV]; exact Below.allocS hB9 _
    have XX10 := hid (XX9.out.alloc (.cells #[.int .i64 Gk, .bool Gcl, .slice bo3 Gb.length bc3, .slice so3 Z.length sc3, .slice ro3 N.length rc3] 26))
    rw [← hV] at XX10
    have XY10 := hid (XY9.out.alloc (.cells #[.int .i64 Gk, .bool Gcl, .slice bo3 Gb.length bc3, .slice so3 Z.length sc3, .slice ro3 N.length rc3] 26))
    rw [← hV] at XY10
    have XL10 := hid (XL9.out.alloc (.cells #[.int .i64 Gk, .bool Gcl, .slice bo3 Gb.length bc3, .slice so3 Z.length sc3, .slice ro3 N.length rc3] 26))
    rw [← hV] at XL10
    have XV10 := hid (XV9.out.alloc (.cells #[.int .i64 Gk, .bool Gcl, .slice bo3 Gb.length bc3, .slice so3 Z.length sc3, .slice ro3 N.length rc3] 26))
    rw [← hV] at XV10
    have XM10 := hid (XM9.out.alloc (.cells #[.int .i64 Gk, .bool Gcl, .slice bo3 Gb.length bc3, .slice so3 Z.length sc3, .slice ro3 N.length rc3] 26))
    rw [← hV] at XM10
    have D10 := hid (D9.out.later (below1 w9 (.cells #[.int .i64 Gk, .bool Gcl, .slice bo3 Gb.length bc3, .slice so3 Z.length sc3, .slice ro3 N.length rc3] 26)))
    rw [← hV] at D10
    have F10 := hid (F9.out.later (below1 w9 (.cells #[.int .i64 Gk, .bool Gcl, .slice bo3 Gb.length bc3, .slice so3 Z.length sc3, .slice ro3 N.length rc3] 26)))
    rw [← hV] at F10
    have Q10 := hid (Q9.out.later (below1 w9 (.cells #[.int .i64 Gk, .bool Gcl, .slice bo3 Gb.length bc3, .slice so3 Z.length sc3, .slice ro3 N.length rc3] 26)))
    rw [← hV] at Q10
    have Q210 := hid (Q29.out.later (below1 w9 (.cells #[.int .i64 Gk, .bool Gcl, .slice bo3 Gb.length bc3, .slice so3 Z.length sc3, .slice ro3 N.length rc3] 26)))
    rw [← hV] at Q210
    have U10 := hid (U9.out.later (below1 w9 (.cells #[.int .i64 Gk, .bool Gcl, .slice bo3 Gb.length bc3, .slice so3 Z.length sc3, .slice ro3 N.length rc3] 26)))
    rw [← hV] at U10
    have H10 : Hid (w10 = w9.alloc (.cells #[.int .i64 Gk, .bool Gcl, .slice bo3 Gb.length bc3, .slice so3 Z.length sc3, .slice ro3 N.length rc3] 26)) := hV
    clear hV XX9 XY9 XL9 XV9 XM9 D9 F9 Q9 Q29 U9
    have XT10 : Hid (Bx w10 w9.heap.size [.int .i64 Gk, .bool Gcl, .slice bo3 Gb.length bc3, .slice so3 Z.length sc3, .slice ro3 N.length rc3]) := by rw [H10.out]; exact Bx.new [.int .i64 Gk, .bool Gcl, .slice bo3 Gb.length bc3, .slice so3 Z.length sc3, .slice ro3 N.length rc3] _ rfl
    have hy10 : w9.heap.size < w10.heap.size := XT10.out.size
    go_wp2_with fail
    clear x0 xf0 x1 xf1 x2 xf2 x3 xf3 x4 xf4 xz y0 yf0 y1 yf1 y2 yf2 y3 yf3 y4 yf4 yz l0 lf0 l1 lf1 l2 lf2 lz v0 vf0 v1 vf1 v2 vf2 v3 vf3 v4 vf4 vz m0 mf0 m1 mf1 m2 mf2 mz
    rw [← H10.out]
    refine (implGood_is Gk Gcl bo3 bc3 Gb so3 sc3 Z ro3 rc3 N w10 true (by omega) (by omega) (by omega) U10.out.in G4.out).mono ?_
    rintro e w11 ⟨rfl, hb11⟩
    have hB11 := hB10.trans (hb11.mono hB10.size)
    have hs11 : w.heap.size ≤ w11.heap.size := Nat.le_trans hs10 hb11.size
    have hz11 : w10.heap.size ≤ w11.heap.size := hb11.size
    have XX11 := hid (XX10.out.later hb11)
    have XY11 := hid (XY10.out.later hb11)
    have XL11 := hid (XL10.out.later hb11)
    have XV11 := hid (XV10.out.later hb11)
    have XM11 := hid (XM10.out.later hb11)
    have XT11 := hid (XT10.out.later hb11)
    have D11 := hid (D10.out.later hb11)
    have F11 := hid (F10.out.later hb11)
    have Q11 := hid (Q10.out.later hb11)
    have Q211 := hid (Q210.out.later hb11)
    have U11 := hid (U10.out.later hb11)
    clear XX10 XY10 XL10 XV10 XM10 XT10 D10 F10 Q10 Q210 U10
    clear hb11
    have l4 := L4.out
    have lN := LN.out
    have x0 := XX11.out.c 0 rfl
    have xf0 := XX11.out.f 0 rfl
    have x1 := XX11.out.c 1 rfl
    have xf1 := XX11.out.f 1 rfl
    have x2 := XX11.out.c 2 rfl
    have xf2 := XX11.out.f 2 rfl
    have x3 := XX11.out.c 3 rfl
    have xf3 := XX11.out.f 3 rfl
    have x4 := XX11.out.c 4 rfl
    have xf4 := XX11.out.f 4 rfl
    have xz := XX11.out.size
    have y0 := XY11.out.c 0 rfl
    have yf0 := XY11.out.f 0 rfl
    have y1 := XY11.out.c 1 rfl
    have yf1 := XY11.out.f 1 rfl
    have y2 := XY11.out.c 2 rfl
    have yf2 := XY11.out.f 2 rfl
    have y3 := XY11.out.c 3 rfl
    have yf3 := XY11.out.f 3 rfl
    have y4 := XY11.out.c 4 rfl
    have yf4 := XY11.out.f 4 rfl
    have yz := XY11.out.size
    have l0 := XL11.out.c 0 rfl
    have lf0 := XL11.out.f 0 rfl
    have l1 := XL11.out.c 1 rfl
    have lf1 := XL11.out.f 1 rfl
    have l2 := XL11.out.c 2 rfl
    have lf2 := XL11.out.f 2 rfl
    have lz := XL11.out.size
    have v0 := XV11.out.c 0 rfl
    have vf0 := XV11.out.f 0 rfl
    have v1 := XV11.out.c 1 rfl
    have vf1 := XV11.out.f 1 rfl
    have v2 := XV11.out.c 2 rfl
    have vf2 := XV11.out.f 2 rfl
    have v3 := XV11.out.c 3 rfl
    have vf3 := XV11.out.f 3 rfl
    have v4 := XV11.out.c 4 rfl
    have vf4 := XV11.out.f 4 rfl
    have vz := XV11.out.size
    have m0 := XM11.out.c 0 rfl
    have mf0 := XM11.out.f 0 rfl
    have m1 := XM11.out.c 1 rfl
    have mf1 := XM11.out.f 1 rfl
    have m2 := XM11.out.c 2 rfl
    have mf2 := XM11.out.f 2 rfl
    have mz := XM11.out.size
    have t0 := XT11.out.c 0 rfl
    have tf0 := XT11.out.f 0 rfl
    have t1 := XT11.out.c 1 rfl
    have tf1 := XT11.out.f 1 rfl
    have t2 := XT11.out.c 2 rfl
    have tf2 := XT11.out.f 2 rfl
    have t3 := XT11.out.c 3 rfl
    have tf3 := XT11.out.f 3 rfl
    have t4 := XT11.out.c 4 rfl
    have tf4 := XT11.out.f 4 rfl
    have tz := XT11.out.size
    go_wp2_with fail
    clear x0 xf0 x1 xf1 x2 xf2 x3 xf3 x4 xf4 xz y0 yf0 y1 yf1 y2 yf2 y3 yf3 y4 yf4 yz l0 lf0 l1 lf1 l2 lf2 lz v0 vf0 v1 vf1 v2 vf2 v3 vf3 v4 vf4 vz m0 mf0 m1 mf1 m2 mf2 mz t0 tf0 t1 tf1 t2 tf2 t3 tf3 t4 tf4 tz
    refine (implDone_as Rk Rcl bo1 bc1 Rb so1 sc1 Rs ro1 rc1 Rr R1 Ek Ecl Eb Ds Dr 0 w11 (by omega) (by omega) (by omega) F11.out.in E5.out).mono ?_
    rintro e w12 ⟨⟨bo4, bc4, so4, sc4, ro4, rc4, rfl, hE⟩, hb12⟩
    have hB12 := hB11.trans (hb12.mono hB11.size)
    have hs12 : w.heap.size ≤ w12.heap.size := Nat.le_trans hs11 hb12.size
    have hz12 : w11.heap.size ≤ w12.heap.size := hb12.size
    have XX12 := hid (XX11.out.later hb12)
    have XY12 := hid (XY11.out.later hb12)
    have XL12 := hid (XL11.out.later hb12)
    have XV12 := hid (XV11.out.later hb12)
    have XM12 := hid (XM11.out.later hb12)
    have XT12 := hid (XT11.out.later hb12)
    have D12 := hid (D11.out.later hb12)
    have F12 := hid (F11.out.later hb12)
    have Q12 := hid (Q11.out.later hb12)
    have Q212 := hid (Q211.out.later hb12)
    have U12 := hid (U11.out.later hb12)
    clear XX11 XY11 XL11 XV11 XM11 XT11 D11 F11 Q11 Q211 U11
    have E12 := hid (hE)
    clear hb12 hE
    clear l4 lN
    have x0 := XX12.out.c 0 rfl
    have xf0 := XX12.out.f 0 rfl
    have x1 := XX12.out.c 1 rfl
    have xf1 := XX12.out.f 1 rfl
    have x2 := XX12.out.c 2 rfl
    have xf2 := XX12.out.f 2 rfl
    have x3 := XX12.out.c 3 rfl
    have xf3 := XX12.out.f 3 rfl
    have x4 := XX12.out.c 4 rfl
    have xf4 := XX12.out.f 4 rfl
    have xz := XX12.out.size
    have y0 := XY12.out.c 0 rfl
    have yf0 := XY12.out.f 0 rfl
    have y1 := XY12.out.c 1 rfl
    have yf1 := XY12.out.f 1 rfl
    have y2 := XY12.out.c 2 rfl
    have yf2 := XY12.out.f 2 rfl
    have y3 := XY12.out.c 3 rfl
    have yf3 := XY12.out.f 3 rfl
    have y4 := XY12.out.c 4 rfl
    have yf4 := XY12.out.f 4 rfl
    have yz := XY12.out.size
    have l0 := XL12.out.c 0 rfl
    have lf0 := XL12.out.f 0 rfl
    have l1 := XL12.out.c 1 rfl
    have lf1 := XL12.out.f 1 rfl
    have l2 := XL12.out.c 2 rfl
    have lf2 := XL12.out.f 2 rfl
    have lz := XL12.out.size
    have v0 := XV12.out.c 0 rfl
    have vf0 := XV12.out.f 0 rfl
    have v1 := XV12.out.c 1 rfl
    have vf1 := XV12.out.f 1 rfl
    have v2 := XV12.out.c 2 rfl
    have vf2 := XV12.out.f 2 rfl
    have v3 := XV12.out.c 3 rfl
    have vf3 := XV12.out.f 3 rfl
    have v4 := XV12.out.c 4 rfl
    have vf4 := XV12.out.f 4 rfl
    have vz := XV12.out.size
    have m0 := XM12.out.c 0 rfl
    have mf0 := XM12.out.f 0 rfl
    have m1 := XM12.out.c 1 rfl
    have mf1 := XM12.out.f 1 rfl
    have m2 := XM12.out.c 2 rfl
    have mf2 := XM12.out.f 2 rfl
    have mz := XM12.out.size
    have t0 := XT12.out.c 0 rfl
    have tf0 := XT12.out.f 0 rfl
    have t1 := XT12.out.c 1 rfl
    have tf1 := XT12.out.f 1 rfl
    have t2 := XT12.out.c 2 rfl
    have tf2 := XT12.out.f 2 rfl
    have t3 := XT12.out.c 3 rfl
    have tf3 := XT12.out.f 3 rfl
    have t4 := XT12.out.c 4 rfl
    have tf4 := XT12.out.f 4 rfl
    have tz := XT12.out.size
    obtain ⟨w13, hV⟩ : ∃ V, V = w12.alloc (.cells #[.int .i64 Ek, .bool Ecl, .slice bo4 Eb.length bc4, .slice so4 Ds.length sc4, .slice ro4 Dr.length rc4] 26) := ⟨_, rfl⟩
    have hz13 : w12.heap.size ≤ w13.heap.size := by rw [hV]; simp
    have hs13 : w.heap.size ≤ w13.heap.size := Nat.le_trans hs12 hz13
    have hB13 : Below w.heap.size w w13 := by rw [hV]; exact Below.allocS hB12 _
    have XX13 := hid (XX12.out.alloc (.cells #[.int .i64 Ek, .bool Ecl, .slice bo4 Eb.length bc4, .slice so4 Ds.length sc4, .slice ro4 Dr.length rc4] 26))
    rw [← hV] at XX13
    have XY13 := hid (XY12.out.alloc (.cells #[.int .i64 Ek, .bool Ecl, .slice bo4 Eb.length bc4, .slice so4 Ds.length sc4, .slice ro4 Dr.length rc4] 26))
    rw [← hV] at XY13
    have XL13 := hid (XL12.out.alloc (.cells #[.int .i64 Ek, .bool Ecl, .slice bo4 Eb.length bc4, .slice so4 Ds.length sc4, .slice ro4 Dr.length rc4] 26))
    rw [← hV] at XL13
    have XV13 := hid (XV12.out.alloc (.cells #[.int .i64 Ek, .bool Ecl, .slice bo4 Eb.length bc4, .slice so4 Ds.length sc4, .slice ro4 Dr.length rc4] 26))
    rw [← hV] at XV13
    have XM13 := hid (XM12.out.alloc (.cells #[.int .i64 Ek, .bool Ecl, .slice bo4 Eb.length bc4, .slice so4 Ds.length sc4, .slice ro4 Dr.length rc4] 26))
    rw [← hV] at XM13
    have XT13 := hid (XT12.out.alloc (.cells #[.int .i64 Ek, .bool Ecl, .slice bo4 Eb.length bc4, .slice so4 Ds.length sc4, .slice ro4 Dr.length rc4] 26))
    rw [← hV] at XT13
    have D13 := hid (D12.out.later (below1 w12 (.cells #[.int .i64 Ek, .bool Ecl, .slice bo4 Eb.length bc4, .slice so4 Ds.length sc4, .slice ro4 Dr.length rc4] 26)))
    rw [← hV] at D13
    have F13 := hid (F12.out.later (below1 w12 (.cells #[.int .i64 Ek, .bool Ecl, .slice bo4 Eb.length bc4, .slice so4 Ds.length sc4, .slice ro4 Dr.length rc4] 26)))
    rw [← hV] at F13
    have Q13 := hid (Q12.out.later (below1 w12 (.cells #[.int .i64 Ek, .bool Ecl, .slice bo4 Eb.length bc4, .slice so4 Ds.length sc4, .slice ro4 Dr.length rc4] 26)))
    rw [← hV] at Q13
    have Q213 := hid (Q212.out.later (below1 w12 (.cells #[.int .i64 Ek, .bool Ecl, .slice bo4 Eb.length bc4, .slice so4 Ds.length sc4, .slice ro4 Dr.length rc4] 26)))
    rw [← hV] at Q213
    have U13 := hid (U12.out.later (below1 w12 (.cells #[.int .i64 Ek, .bool Ecl, .slice bo4 Eb.length bc4, .slice so4 Ds.length sc4, .slice ro4 Dr.length rc4] 26)))
    rw [← hV] at U13
    have E13 := hid (E12.out.later (below1 w12 (.cells #[.int .i64 Ek, .bool Ecl, .slice bo4 Eb.length bc4, .slice so4 Ds.length sc4, .slice ro4 Dr.length rc4] 26)))
    rw [← hV] at E13
    have H13 : Hid (w13 = w12.alloc (.cells #[.int .i64 Ek, .bool Ecl, .slice bo4 Eb.length bc4, .slice so4 Ds.length sc4, .slice ro4 Dr.length rc4] 26)) := hV
    clear hV XX12 XY12 XL12 XV12 XM12 XT12 D12 F12 Q12 Q212 U12 E12
    have XS13 : Hid (Bx w13 w12.heap.size [.int .i64 Ek, .bool Ecl, .slice bo4 Eb.length bc4, .slice so4 Ds.length sc4, .slice ro4 Dr.length rc4]) := by rw [H13.out]; exact Bx.new [.int .i64 Ek, .bool Ecl, .slice bo4 Eb.length bc4, .slice so4 Ds.length sc4, .slice ro4 Dr.length rc4] _ rfl
    have hy13 : w12.heap.size < w13.heap.size := XS13.out.size
    go_wp2_with fail
    clear x0 xf0 x1 xf1 x2 xf2 x3 xf3 x4 xf4 xz y0 yf0 y1 yf1 y2 yf2 y3 yf3 y4 yf4 yz l0 lf0 l1 lf1 l2 lf2 lz v0 vf0 v1 vf1 v2 vf2 v3 vf3 v4 vf4 vz m0 mf0 m1 mf1 m2 mf2 mz t0 tf0 t1 tf1 t2 tf2 t3 tf3 t4 tf4 tz
    rw [← H13.out]
    refine (implIn_as Ek Ecl bo4 bc4 Eb so4 sc4 Ds ro4 rc4 Dr q3 true w13 (by omega) (by omega) (by omega) E13.out.in E6.out).mono ?_
    rintro e w14 ⟨⟨qo3, qc3, rfl, hQ⟩, hb14⟩
    have hB14 := hB13.trans (hb14.mono hB13.size)
    have hs14 : w.heap.size ≤ w14.heap.size := Nat.le_trans hs13 hb14.size
    have hz14 : w13.heap.size ≤ w14.heap.size := hb14.size
    have XX14 := hid (XX13.out.later hb14)
    have XY14 := hid (XY13.out.later hb14)
    have XL14 := hid (XL13.out.later hb14)
    have XV14 := hid (XV13.out.later hb14)
    have XM14 := hid (XM13.out.later hb14)
    have XT14 := hid (XT13.out.later hb14)
    have XS14 := hid (XS13.out.later hb14)
    have D14 := hid (D13.out.later hb14)
    have F14 := hid (F13.out.later hb14)
    have Q14 := hid (Q13.out.later hb14)
    have Q214 := hid (Q213.out.later hb14)
    have U14 := hid (U13.out.later hb14)
    have E14 := hid (E13.out.later hb14)
    clear XX13 XY13 XL13 XV13 XM13 XT13 XS13 D13 F13 Q13 Q213 U13 E13
    have Q314 := hid (hQ)
    clear hb14 hQ
    have l6 := L6.out
    have x0 := XX14.out.c 0 rfl
    have xf0 := XX14.out.f 0 rfl
    have x1 := XX14.out.c 1 rfl
    have xf1 := XX14.out.f 1 rfl
    have x2 := XX14.out.c 2 rfl
    have xf2 := XX14.out.f 2 rfl
    have x3 := XX14.out.c 3 rfl
    have xf3 := XX14.out.f 3 rfl
    have x4 := XX14.out.c 4 rfl
    have xf4 := XX14.out.f 4 rfl
    have xz := XX14.out.size
    have y0 := XY14.out.c 0 rfl
    have yf0 := XY14.out.f 0 rfl
    have y1 := XY14.out.c 1 rfl
    have yf1 := XY14.out.f 1 rfl
    have y2 := XY14.out.c 2 rfl
    have yf2 := XY14.out.f 2 rfl
    have y3 := XY14.out.c 3 rfl
    have yf3 := XY14.out.f 3 rfl
    have y4 := XY14.out.c 4 rfl
    have yf4 := XY14.out.f 4 rfl
    have yz := XY14.out.size
    have l0 := XL14.out.c 0 rfl
    have lf0 := XL14.out.f 0 rfl
    have l1 := XL14.out.c 1 rfl
    have lf1 := XL14.out.f 1 rfl
    have l2 := XL14.out.c 2 rfl
    have lf2 := XL14.out.f 2 rfl
    have lz := XL14.out.size
    have v0 := XV14.out.c 0 rfl
    have vf0 := XV14.out.f 0 rfl
    have v1 := XV14.out.c 1 rfl
    have vf1 := XV14.out.f 1 rfl
    have v2 := XV14.out.c 2 rfl
    have vf2 := XV14.out.f 2 rfl
    have v3 := XV14.out.c 3 rfl
    have vf3 := XV14.out.f 3 rfl
    have v4 := XV14.out.c 4 rfl
    have vf4 := XV14.out.f 4 rfl
    have vz := XV14.out.size
    have m0 := XM14.out.c 0 rfl
    have mf0 := XM14.out.f 0 rfl
    have m1 := XM14.out.c 1 rfl
    have mf1 := XM14.out.f 1 rfl
    have m2 := XM14.out.c 2 rfl
    have mf2 := XM14.out.f 2 rfl
    have mz := XM14.out.size
    have t0 := XT14.out.c 0 rfl
    have tf0 := XT14.out.f 0 rfl
    have t1 := XT14.out.c 1 rfl
    have tf1 := XT14.out.f 1 rfl
    have t2 := XT14.out.c 2 rfl
    have tf2 := XT14.out.f 2 rfl
    have t3 := XT14.out.c 3 rfl
    have tf3 := XT14.out.f 3 rfl
    have t4 := XT14.out.c 4 rfl
    have tf4 := XT14.out.f 4 rfl
    have tz := XT14.out.size
    have s0 := XS14.out.c 0 rfl
    have sf0 := XS14.out.f 0 rfl
    have s1 := XS14.out.c 1 rfl
    have sf1 := XS14.out.f 1 rfl
    have s2 := XS14.out.c 2 rfl
    have sf2 := XS14.out.f 2 rfl
    have s3 := XS14.out.c 3 rfl
    have sf3 := XS14.out.f 3 rfl
    have s4 := XS14.out.c 4 rfl
    have sf4 := XS14.out.f 4 rfl
    have sz := XS14.out.size
    go_wp2_with fail
    clear x0 xf0 x1 xf1 x2 xf2 x3 xf3 x4 xf4 xz y0 yf0 y1 yf1 y2 yf2 y3 yf3 y4 yf4 yz l0 lf0 l1 lf1 l2 lf2 lz v0 vf0 v1 vf1 v2 vf2 v3 vf3 v4 vf4 vz m0 mf0 m1 mf1 m2 mf2 mz t0 tf0 t1 tf1 t2 tf2 t3 tf3 t4 tf4 tz s0 sf0 s1 sf1 s2 sf2 s3 sf3 s4 sf4 sz
    refine (has_is _ qo3 qc3 q3 R1 w14 false (by omega) Q314.out.in E7.out).mono ?_
    rintro e w15 ⟨rfl, hw15⟩
    rw [hw15]
    clear hw15 w15
    go_wp2
    go_ret
    exact ⟨rfl, hB14⟩
end Go.Proofs.Ytnnlbnbamhkcaaa
