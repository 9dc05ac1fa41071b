
/- The law of what is picked: it returns true. No conditions but those written. -/
import Derived.Test.YtgbnbnjfaffaiaaXn
namespace Go.Proofs.Ytgbnbnjfaffaiaa
open Go.RowKit

set_option maxRecDepth 100000 in
set_option maxHeartbeats 16000000 in
theorem lawPick (co : Option Addr) (cap : Nat) (bs : List Int) (w : World) (hl : bs.length ≤ 9223372036854775807) (hb : BytesIn w.heap.size w co bs) :
    Calls Try.prog 3 #[.slice co bs.length cap] w fun e w' => e = .returned (.bool true) ∧ Below w.heap.size w w' := by
  by_cases hbig : 1048576 < (bs.length : Int)
  · go_enter Try.func3, Try.ntmps3
    go_wp2
    go_ret
    exact ⟨rfl, Below.refl _ _⟩
  have hB0 : Below w.heap.size w w := Below.refl _ _
  have hs0 : w.heap.size ≤ w.heap.size := Nat.le_refl _
  go_enter Try.func3, Try.ntmps3
  go_wp2_with fail
  refine (drawPick_any co cap bs w hl hb).mono ?_
  rintro e w1 ⟨⟨to, tc, ts, qo, qc, q, iv, rfl, hlq, hD⟩, hb1⟩
  have hB1 := hB0.trans (hb1.mono hB0.size)
  have hs1 : w.heap.size ≤ w1.heap.size := Nat.le_trans hs0 hb1.size
  have hz1 : w.heap.size ≤ w1.heap.size := hb1.size
  have D1 := hid (hD)
  clear hb1 hD
  obtain ⟨hl1, hl2⟩ := hlq
  obtain ⟨T, Q, id, cd, hR⟩ : ∃ T Q id cd, Old.pickR iv ts q = (T, Q, id, cd) := ⟨_, _, _, _, rfl⟩
  have HR := hid hR
  clear hR
  obtain ⟨w2, hV⟩ : ∃ V, V = w1.alloc (.cells #[.slice to ts.length tc, .slice qo q.length qc] 26) := ⟨_, rfl⟩
  have hz2 : w1.heap.size ≤ w2.heap.size := by rw [hV]; simp
  have hs2 : w.heap.size ≤ w2.heap.size := Nat.le_trans hs1 hz2
  have hB2 : Below w.heap.size w w2 := by rw [hV]; exact Below.allocS hB1 _
  have D2 := hid (D1.out.later (below1 w1 (.cells #[.slice to ts.length tc, .slice qo q.length qc] 26)))
  rw [← hV] at D2
  have H2 : Hid (w2 = w1.alloc (.cells #[.slice to ts.length tc, .slice qo q.length qc] 26)) := hV
  clear hV D1
  have XA2 : Hid (Bx w2 w1.heap.size [.slice to ts.length tc, .slice qo q.length qc]) := by rw [H2.out]; exact Bx.new [.slice to ts.length tc, .slice qo q.length qc] _ rfl
  have hy2 : w1.heap.size < w2.heap.size := XA2.out.size
  go_wp2_with fail
  rw [← H2.out]
  refine (implPick_as to tc ts qo qc q iv T Q id cd w2 (by omega) (by omega) D2.out.tasks D2.out.ints HR.out).mono ?_
  rintro e w3 ⟨⟨o1, c1, o2, c2, rfl, hF1, hF2⟩, hb3⟩
  have hB3 := hB2.trans (hb3.mono hB2.size)
  have hs3 : w.heap.size ≤ w3.heap.size := Nat.le_trans hs2 hb3.size
  have hz3 : w2.heap.size ≤ w3.heap.size := hb3.size
  have XA3 := hid (XA2.out.later hb3)
  have D3 := hid (D2.out.later hb3)
  clear XA2 D2
  have F3 := hid (hF1)
  have U3 := hid (hF2)
  clear hb3 hF1 hF2
  have a0 := XA3.out.c 0 rfl
  have af0 := XA3.out.f 0 rfl
  have a1 := XA3.out.c 1 rfl
  have af1 := XA3.out.f 1 rfl
  have az := XA3.out.size
  obtain ⟨w4, hV⟩ : ∃ V, V = w3.alloc (.cells #[.slice o1 T.length c1, .slice o2 Q.length c2] 26) := ⟨_, rfl⟩
  have hz4 : w3.heap.size ≤ w4.heap.size := by rw [hV]; simp
  have hs4 : w.heap.size ≤ w4.heap.size := Nat.le_trans hs3 hz4
  have hB4 : Below w.heap.size w w4 := by rw [hV]; exact Below.allocS hB3 _
  have XA4 := hid (XA3.out.alloc (.cells #[.slice o1 T.length c1, .slice o2 Q.length c2] 26))
  rw [← hV] at XA4
  have D4 := hid (D3.out.later (below1 w3 (.cells #[.slice o1 T.length c1, .slice o2 Q.length c2] 26)))
  rw [← hV] at D4
  have F4 := hid (F3.out.later (below1 w3 (.cells #[.slice o1 T.length c1, .slice o2 Q.length c2] 26)))
  rw [← hV] at F4
  have U4 := hid (U3.out.later (below1 w3 (.cells #[.slice o1 T.length c1, .slice o2 Q.length c2] 26)))
  rw [← hV] at U4
  have H4 : Hid (w4 = w3.alloc (.cells #[.slice o1 T.length c1, .slice o2 Q.length c2] 26)) := hV
  clear hV XA3 D3 F3 U3
  have XX4 : Hid (Bx w4 w3.heap.size [.slice o1 T.length c1, .slice o2 Q.length c2]) := by rw [H4.out]; exact Bx.new [.slice o1 T.length c1, .slice o2 Q.length c2] _ rfl
  have hy4 : w3.heap.size < w4.heap.size := XX4.out.size
  go_wp2_with fail
  clear a0 af0 a1 af1 az
  rw [← H4.out]
  refine (specPick_as to tc ts qo qc q iv T Q id cd w4 (by omega) (by omega) D4.out.tasks D4.out.ints D4.out.no HR.out).mono ?_
  rintro e w5 ⟨⟨o3, c3, o4, c4, rfl, hF1, hF2⟩, hb5⟩
  have hB5 := hB4.trans (hb5.mono hB4.size)
  have hs5 : w.heap.size ≤ w5.heap.size := Nat.le_trans hs4 hb5.size
  have hz5 : w4.heap.size ≤ w5.heap.size := hb5.size
  have XA5 := hid (XA4.out.later hb5)
  have XX5 := hid (XX4.out.later hb5)
  have D5 := hid (D4.out.later hb5)
  have F5 := hid (F4.out.later hb5)
  have U5 := hid (U4.out.later hb5)
  clear XA4 XX4 D4 F4 U4
  clear hb5 hF1 hF2
  have a0 := XA5.out.c 0 rfl
  have af0 := XA5.out.f 0 rfl
  have a1 := XA5.out.c 1 rfl
  have af1 := XA5.out.f 1 rfl
  have az := XA5.out.size
  have x0 := XX5.out.c 0 rfl
  have xf0 := XX5.out.f 0 rfl
  have x1 := XX5.out.c 1 rfl
  have xf1 := XX5.out.f 1 rfl
  have xz := XX5.out.size
  obtain ⟨w6, hV⟩ : ∃ V, V = w5.alloc (.cells #[.slice o3 T.length c3, .slice o4 Q.length c4] 26) := ⟨_, rfl⟩
  have hz6 : w5.heap.size ≤ w6.heap.size := by rw [hV]; simp
  have hs6 : w.heap.size ≤ w6.heap.size := Nat.le_trans hs5 hz6
  have hB6 : Below w.heap.size w w6 := by rw [hV]; exact Below.allocS hB5 _
  have XA6 := hid (XA5.out.alloc (.cells #[.slice o3 T.length c3, .slice o4 Q.length c4] 26))
  rw [← hV] at XA6
  have XX6 := hid (XX5.out.alloc (.cells #[.slice o3 T.length c3, .slice o4 Q.length c4] 26))
  rw [← hV] at XX6
  have D6 := hid (D5.out.later (below1 w5 (.cells #[.slice o3 T.length c3, .slice o4 Q.length c4] 26)))
  rw [← hV] at D6
  have F6 := hid (F5.out.later (below1 w5 (.cells #[.slice o3 T.length c3, .slice o4 Q.length c4] 26)))
  rw [← hV] at F6
  have U6 := hid (U5.out.later (below1 w5 (.cells #[.slice o3 T.length c3, .slice o4 Q.length c4] 26)))
  rw [← hV] at U6
  have H6 : Hid (w6 = w5.alloc (.cells #[.slice o3 T.length c3, .slice o4 Q.length c4] 26)) := hV
  clear hV XA5 XX5 D5 F5 U5
  have XY6 : Hid (Bx w6 w5.heap.size [.slice o3 T.length c3, .slice o4 Q.length c4]) := by rw [H6.out]; exact Bx.new [.slice o3 T.length c3, .slice o4 Q.length c4] _ rfl
  have hy6 : w5.heap.size < w6.heap.size := XY6.out.size
  have hce : (cd != cd) = false := by simp
  have hie : (id != id) = false := by simp
  by_cases hc : cd = 0
  case neg =>
    have hc1 : (cd != 0) = true := by simpa using hc
    go_wp2
    go_ret
    exact ⟨rfl, by rw [← H6.out]; exact hB6⟩
  subst hc
  clear hce
  obtain ⟨n, T2, rfl, hnl, hT30, hg1, hno, hQl, h2, hR2, hg2, hT2l⟩ := picked_all HR.out
  obtain ⟨Q2, hQ2⟩ : ∃ Q2, Q2 = Q ++ [(n : Int)] := ⟨_, rfl⟩
  rw [← hQ2] at hR2 hg2
  have hQ2l : Q2.length = Q.length + 1 := by rw [hQ2]; simp
  have hQ2e : el Q2 Q.length = (n : Int) := by rw [hQ2]; simp [el]
  have HG1 := hid hg1
  have HNO := hid hno
  have HR2 := hid hR2
  have HG2 := hid hg2
  have HT := hid hT2l
  have HQ2 := hid hQ2l
  have HQE := hid hQ2e
  have HQL := hid hQl
  have HTW := hid h2
  clear hg1 hno hR2 hg2 hT2l hQ2l hQ2e hQ2 hQl h2
  go_wp2_with fail
  clear a0 af0 a1 af1 az x0 xf0 x1 xf1 xz
  rw [← H6.out]
  refine (implGoodB_is o1 c1 T o2 c2 Q w6 true (by omega) F6.out U6.out HG1.out).mono ?_
  rintro e w7 ⟨rfl, hb7⟩
  have hB7 := hB6.trans (hb7.mono hB6.size)
  have hs7 : w.heap.size ≤ w7.heap.size := Nat.le_trans hs6 hb7.size
  have hz7 : w6.heap.size ≤ w7.heap.size := hb7.size
  have XA7 := hid (XA6.out.later hb7)
  have XX7 := hid (XX6.out.later hb7)
  have XY7 := hid (XY6.out.later hb7)
  have D7 := hid (D6.out.later hb7)
  have F7 := hid (F6.out.later hb7)
  have U7 := hid (U6.out.later hb7)
  clear XA6 XX6 XY6 D6 F6 U6
  clear hb7
  obtain ⟨tb, tf, rfl, htb, htc⟩ := kT_at F7.out hnl
  have ht1 := (htc n hnl).1
  rw [HTW.out] at ht1
  clear htc
  have hnI : (n : Int) < (T.length : Int) := by omega
  have hlen : ((Q.length : Int) != (q.length : Int) - 1) = false := by have := HQL.out; simp; omega
  have a0 := XA7.out.c 0 rfl
  have af0 := XA7.out.f 0 rfl
  have a1 := XA7.out.c 1 rfl
  have af1 := XA7.out.f 1 rfl
  have az := XA7.out.size
  have x0 := XX7.out.c 0 rfl
  have xf0 := XX7.out.f 0 rfl
  have x1 := XX7.out.c 1 rfl
  have xf1 := XX7.out.f 1 rfl
  have xz := XX7.out.size
  have y0 := XY7.out.c 0 rfl
  have yf0 := XY7.out.f 0 rfl
  have y1 := XY7.out.c 1 rfl
  have yf1 := XY7.out.f 1 rfl
  have yz := XY7.out.size
  go_wp2_with fail
  clear a0 af0 a1 af1 az x0 xf0 x1 xf1 xz y0 yf0 y1 yf1 yz
  refine (has_is _ o2 c2 Q (n : Int) w7 false (by have := HQL.out; omega) U7.out HNO.out).mono ?_
  rintro e w8 ⟨rfl, hw8⟩
  rw [hw8]
  clear hw8 w8
  have a0 := XA7.out.c 0 rfl
  have af0 := XA7.out.f 0 rfl
  have a1 := XA7.out.c 1 rfl
  have af1 := XA7.out.f 1 rfl
  have az := XA7.out.size
  have x0 := XX7.out.c 0 rfl
  have xf0 := XX7.out.f 0 rfl
  have x1 := XX7.out.c 1 rfl
  have xf1 := XX7.out.f 1 rfl
  have xz := XX7.out.size
  have y0 := XY7.out.c 0 rfl
  have yf0 := XY7.out.f 0 rfl
  have y1 := XY7.out.c 1 rfl
  have yf1 := XY7.out.f 1 rfl
  have yz := XY7.out.size
  go_wp2_with fail
  clear a0 af0 a1 af1 az x0 xf0 x1 xf1 xz y0 yf0 y1 yf1 yz
  refine (implYield_as (some ⟨tb, tf, none⟩) c1 T o2 c2 Q T2 Q2 0 w7 (by omega) (by have := HQL.out; omega) F7.out U7.out HR2.out).mono ?_
  rintro e w8 ⟨⟨o5, c5, o6, c6, rfl, hF1, hF2⟩, hb8⟩
  have hB8 := hB7.trans (hb8.mono hB7.size)
  have hs8 : w.heap.size ≤ w8.heap.size := Nat.le_trans hs7 hb8.size
  have hz8 : w7.heap.size ≤ w8.heap.size := hb8.size
  have XA8 := hid (XA7.out.later hb8)
  have XX8 := hid (XX7.out.later hb8)
  have XY8 := hid (XY7.out.later hb8)
  have D8 := hid (D7.out.later hb8)
  have F8 := hid (F7.out.later hb8)
  have U8 := hid (U7.out.later hb8)
  clear XA7 XX7 XY7 D7 F7 U7
  have G8 := hid (hF1)
  have V8 := hid (hF2)
  clear hb8 hF1 hF2
  have a0 := XA8.out.c 0 rfl
  have af0 := XA8.out.f 0 rfl
  have a1 := XA8.out.c 1 rfl
  have af1 := XA8.out.f 1 rfl
  have az := XA8.out.size
  have x0 := XX8.out.c 0 rfl
  have xf0 := XX8.out.f 0 rfl
  have x1 := XX8.out.c 1 rfl
  have xf1 := XX8.out.f 1 rfl
  have xz := XX8.out.size
  have y0 := XY8.out.c 0 rfl
  have yf0 := XY8.out.f 0 rfl
  have y1 := XY8.out.c 1 rfl
  have yf1 := XY8.out.f 1 rfl
  have yz := XY8.out.size
  obtain ⟨w9, hV⟩ : ∃ V, V = w8.alloc (.cells #[.slice o5 T2.length c5, .slice o6 Q2.length c6] 26) := ⟨_, rfl⟩
  have hz9 : w8.heap.size ≤ w9.heap.size := by rw [hV]; simp
  have hs9 : w.heap.size ≤ w9.heap.size := Nat.le_trans hs8 hz9
  have hB9 : Below w.heap.size w w9 := by rw [hV]; exact Below.allocS hB8 _
  have XA9 := hid (XA8.out.alloc (.cells #[.slice o5 T2.length c5, .slice o6 Q2.length c6] 26))
  rw [← hV] at XA9
  have XX9 := hid (XX8.out.alloc (.cells #[.slice o5 T2.length c5, .slice o6 Q2.length c6] 26))
  rw [← hV] at XX9
  have XY9 := hid (XY8.out.alloc (.cells #[.slice o5 T2.length c5, .slice o6 Q2.length c6] 26))
  rw [← hV] at XY9
  have D9 := hid (D8.out.later (below1 w8 (.cells #[.slice o5 T2.length c5, .slice o6 Q2.length c6] 26)))
  rw [← hV] at D9
  have F9 := hid (F8.out.later (below1 w8 (.cells #[.slice o5 T2.length c5, .slice o6 Q2.length c6] 26)))
  rw [← hV] at F9
  have U9 := hid (U8.out.later (below1 w8 (.cells #[.slice o5 T2.length c5, .slice o6 Q2.length c6] 26)))
  rw [← hV] at U9
  have G9 := hid (G8.out.later (below1 w8 (.cells #[.slice o5 T2.length c5, .slice o6 Q2.length c6] 26)))
  rw [← hV] at G9
  have V9 := hid (V8.out.later (below1 w8 (.cells #[.slice o5 T2.length c5, .slice o6 Q2.length c6] 26)))
  rw [← hV] at V9
  have H9 : Hid (w9 = w8.alloc (.cells #[.slice o5 T2.length c5, .slice o6 Q2.length c6] 26)) := hV
  clear hV XA8 XX8 XY8 D8 F8 U8 G8 V8
  have XZ9 : Hid (Bx w9 w8.heap.size [.slice o5 T2.length c5, .slice o6 Q2.length c6]) := by rw [H9.out]; exact Bx.new [.slice o5 T2.length c5, .slice o6 Q2.length c6] _ rfl
  have hy9 : w8.heap.size < w9.heap.size := XZ9.out.size
  obtain ⟨mo, hmo⟩ : ∃ m, Old.mostP T2 = m := ⟨_, rfl⟩
  have hm0 : 0 ≤ mo := by rw [← hmo]; exact Old.mostP_pos T2
  have HMO := hid hmo
  clear hmo
  have hm1 : decide (0 ≤ mo) = true := by simpa using hm0
  go_wp2_with fail
  clear a0 af0 a1 af1 az x0 xf0 x1 xf1 xz y0 yf0 y1 yf1 yz
  rw [← H9.out]
  refine (implMost_is o5 c5 T2 o6 c6 Q2 w9 mo (by have := HT.out; omega) G9.out V9.out HG2.out HMO.out).mono ?_
  rintro e w10 ⟨rfl, hb10⟩
  have hB10 := hB9.trans (hb10.mono hB9.size)
  have hs10 : w.heap.size ≤ w10.heap.size := Nat.le_trans hs9 hb10.size
  have hz10 : w9.heap.size ≤ w10.heap.size := hb10.size
  have XA10 := hid (XA9.out.later hb10)
  have XX10 := hid (XX9.out.later hb10)
  have XY10 := hid (XY9.out.later hb10)
  have XZ10 := hid (XZ9.out.later hb10)
  have D10 := hid (D9.out.later hb10)
  have F10 := hid (F9.out.later hb10)
  have U10 := hid (U9.out.later hb10)
  have G10 := hid (G9.out.later hb10)
  have V10 := hid (V9.out.later hb10)
  clear XA9 XX9 XY9 XZ9 D9 F9 U9 G9 V9
  clear hb10
  have a0 := XA10.out.c 0 rfl
  have af0 := XA10.out.f 0 rfl
  have a1 := XA10.out.c 1 rfl
  have af1 := XA10.out.f 1 rfl
  have az := XA10.out.size
  have x0 := XX10.out.c 0 rfl
  have xf0 := XX10.out.f 0 rfl
  have x1 := XX10.out.c 1 rfl
  have xf1 := XX10.out.f 1 rfl
  have xz := XX10.out.size
  have y0 := XY10.out.c 0 rfl
  have yf0 := XY10.out.f 0 rfl
  have y1 := XY10.out.c 1 rfl
  have yf1 := XY10.out.f 1 rfl
  have yz := XY10.out.size
  have z0 := XZ10.out.c 0 rfl
  have zf0 := XZ10.out.f 0 rfl
  have z1 := XZ10.out.c 1 rfl
  have zf1 := XZ10.out.f 1 rfl
  have zz := XZ10.out.size
  go_wp2_with fail
  clear a0 af0 a1 af1 az x0 xf0 x1 xf1 xz y0 yf0 y1 yf1 yz z0 zf0 z1 zf1 zz
  refine (implGoodB_is o5 c5 T2 o6 c6 Q2 w10 true (by have := HT.out; omega) G10.out V10.out HG2.out).mono ?_
  rintro e w11 ⟨rfl, hb11⟩
  have hB11 := hB10.trans (hb11.mono hB10.size)
  have hs11 : w.heap.size ≤ w11.heap.size := Nat.le_trans hs10 hb11.size
  have hz11 : w10.heap.size ≤ w11.heap.size := hb11.size
  have XA11 := hid (XA10.out.later hb11)
  have XX11 := hid (XX10.out.later hb11)
  have XY11 := hid (XY10.out.later hb11)
  have XZ11 := hid (XZ10.out.later hb11)
  have D11 := hid (D10.out.later hb11)
  have F11 := hid (F10.out.later hb11)
  have U11 := hid (U10.out.later hb11)
  have G11 := hid (G10.out.later hb11)
  have V11 := hid (V10.out.later hb11)
  clear XA10 XX10 XY10 XZ10 D10 F10 U10 G10 V10
  clear hb11
  obtain ⟨qb, qf, rfl, hqb, hqs⟩ := ints_at V11.out (show Q.length < Q2.length by have := HQ2.out; omega)
  have hq1 := hqs Q.length (by have := HQ2.out; omega)
  rw [HQE.out] at hq1
  clear hqs
  have hqi : (Q2.length : Int) - 1 = (Q.length : Int) := by have := HQ2.out; omega
  have hqj : (Q.length : Int) < (Q2.length : Int) := by have := HQ2.out; omega
  have hqw : wrap64 (Q.length : Int) = (Q.length : Int) := by unfold wrap64; have := HQL.out; omega
  have a0 := XA11.out.c 0 rfl
  have af0 := XA11.out.f 0 rfl
  have a1 := XA11.out.c 1 rfl
  have af1 := XA11.out.f 1 rfl
  have az := XA11.out.size
  have x0 := XX11.out.c 0 rfl
  have xf0 := XX11.out.f 0 rfl
  have x1 := XX11.out.c 1 rfl
  have xf1 := XX11.out.f 1 rfl
  have xz := XX11.out.size
  have y0 := XY11.out.c 0 rfl
  have yf0 := XY11.out.f 0 rfl
  have y1 := XY11.out.c 1 rfl
  have yf1 := XY11.out.f 1 rfl
  have yz := XY11.out.size
  have z0 := XZ11.out.c 0 rfl
  have zf0 := XZ11.out.f 0 rfl
  have z1 := XZ11.out.c 1 rfl
  have zf1 := XZ11.out.f 1 rfl
  have zz := XZ11.out.size
  go_wp2
  go_ret
  exact ⟨rfl, hB11⟩
end Go.Proofs.Ytgbnbnjfaffaiaa
