/- The law of what is published: it returns true. No conditions but those written. -/
import Derived.Test.YtimkadnnhfllnaaXn
namespace Go.Proofs.Ytimkadnnhfllnaa
open Go.RowKit

set_option maxRecDepth 100000 in
set_option maxHeartbeats 16000000 in
theorem lawHeard (co : Option Addr) (cap : Nat) (bs : List Int) (w : World) (hl : bs.length ≤ 9223372036854775807) (hb : BytesIn w.heap.size w co bs) :
    Calls Try.prog 3 #[.slice co bs.length cap] w fun e w' => e = .returned (.bool true) ∧ Below w.heap.size w w' := by
  by_cases hbig : 1048576 < (bs.length : Int)
  · go_enter Try.func3, Try.ntmps3
    go_wp2
    go_ret
    exact ⟨rfl, Below.refl _ _⟩
  have hB0 : Below w.heap.size w w := Below.refl _ _
  have hs0 : w.heap.size ≤ w.heap.size := Nat.le_refl _
  go_enter Try.func3, Try.ntmps3
  go_wp2_with fail
  refine (drawPub_any co cap bs w hl hb).mono ?_
  rintro e w1 ⟨⟨sd0, o, c, us, x, rfl, hlq, hD⟩, hb1⟩
  have hB1 := hB0.trans (hb1.mono hB0.size)
  have hs1 : w.heap.size ≤ w1.heap.size := Nat.le_trans hs0 hb1.size
  have hz1 : w.heap.size ≤ w1.heap.size := hb1.size
  have D1 := hid (hD)
  clear hb1 hD
  obtain ⟨hl11, hfit⟩ := hlq
  have HF := hid hfit
  clear hfit
  obtain ⟨S, P, l, cd, hR⟩ : ∃ S P l cd, pubR sd0 (us.map valSub) x = (S, P, l, cd) := ⟨_, _, _, _, rfl⟩
  have hll := pub_ids (sd := sd0) (ps := us.map valSub) (v := x)
  rw [hR, List.length_map] at hll
  dsimp only at hll
  have HR := hid hR
  clear hR
  obtain ⟨w2, hV⟩ : ∃ V, V = w1.alloc (.cells #[.int .i64 sd0, .slice o us.length c] 25) := ⟨_, rfl⟩
  have hz2 : w1.heap.size ≤ w2.heap.size := by rw [hV]; simp
  have hs2 : w.heap.size ≤ w2.heap.size := Nat.le_trans hs1 hz2
  have hB2 : Below w.heap.size w w2 := by rw [hV]; exact Below.allocS hB1 _
  have D2 := hid (D1.out.later (below1 w1 (.cells #[.int .i64 sd0, .slice o us.length c] 25)))
  rw [← hV] at D2
  have H2 : Hid (w2 = w1.alloc (.cells #[.int .i64 sd0, .slice o us.length c] 25)) := hV
  clear hV D1
  have XA2 : Hid (Bx w2 w1.heap.size [.int .i64 sd0, .slice o us.length c]) := by rw [H2.out]; exact Bx.new [.int .i64 sd0, .slice o us.length c] _ rfl
  have hy2 : w1.heap.size < w2.heap.size := XA2.out.size
  go_wp2_with fail
  rw [← H2.out]
  refine (implPub_as sd0 o c us x S P l cd w2 (by omega) HF.out D2.out.in HR.out).mono ?_
  rintro e w3 ⟨⟨o1, c1, u1, go, gc, rfl, hu1, hF1, hF2⟩, hb3⟩
  have hB3 := hB2.trans (hb3.mono hB2.size)
  have hs3 : w.heap.size ≤ w3.heap.size := Nat.le_trans hs2 hb3.size
  have hz3 : w2.heap.size ≤ w3.heap.size := hb3.size
  have XA3 := hid (XA2.out.later hb3)
  have D3 := hid (D2.out.later hb3)
  clear XA2 D2
  have F3 := hid (show TI _ o1 u1 from hF1)
  have U3 := hid (hF2)
  clear hb3 hF1 hF2
  have HU := hid hu1
  clear hu1
  have a0 := XA3.out.c 0 rfl
  have af0 := XA3.out.f 0 rfl
  have a1 := XA3.out.c 1 rfl
  have af1 := XA3.out.f 1 rfl
  have az := XA3.out.size
  obtain ⟨w4, hV⟩ : ∃ V, V = w3.alloc (.cells #[.int .i64 S, .slice o1 u1.length c1] 25) := ⟨_, rfl⟩
  have hz4 : w3.heap.size ≤ w4.heap.size := by rw [hV]; simp
  have hs4 : w.heap.size ≤ w4.heap.size := Nat.le_trans hs3 hz4
  have hB4 : Below w.heap.size w w4 := by rw [hV]; exact Below.allocS hB3 _
  have XA4 := hid (XA3.out.alloc (.cells #[.int .i64 S, .slice o1 u1.length c1] 25))
  rw [← hV] at XA4
  have D4 := hid (D3.out.later (below1 w3 (.cells #[.int .i64 S, .slice o1 u1.length c1] 25)))
  rw [← hV] at D4
  have F4 := hid (F3.out.later (below1 w3 (.cells #[.int .i64 S, .slice o1 u1.length c1] 25)))
  rw [← hV] at F4
  have U4 := hid (U3.out.later (below1 w3 (.cells #[.int .i64 S, .slice o1 u1.length c1] 25)))
  rw [← hV] at U4
  have H4 : Hid (w4 = w3.alloc (.cells #[.int .i64 S, .slice o1 u1.length c1] 25)) := hV
  clear hV XA3 D3 F3 U3
  have XX4 : Hid (Bx w4 w3.heap.size [.int .i64 S, .slice o1 u1.length c1]) := by rw [H4.out]; exact Bx.new [.int .i64 S, .slice o1 u1.length c1] _ rfl
  have hy4 : w3.heap.size < w4.heap.size := XX4.out.size
  go_wp2_with fail
  clear a0 af0 a1 af1 az
  rw [← H4.out]
  refine (specPub_as sd0 o c us x S P l cd w4 (by omega) HF.out D4.out.in HR.out).mono ?_
  rintro e w5 ⟨⟨o2, c2, n2, go2, gc2, rfl, hF2⟩, hb5⟩
  have hB5 := hB4.trans (hb5.mono hB4.size)
  have hs5 : w.heap.size ≤ w5.heap.size := Nat.le_trans hs4 hb5.size
  have hz5 : w4.heap.size ≤ w5.heap.size := hb5.size
  have XA5 := hid (XA4.out.later hb5)
  have XX5 := hid (XX4.out.later hb5)
  have D5 := hid (D4.out.later hb5)
  have F5 := hid (F4.out.later hb5)
  have U5 := hid (U4.out.later hb5)
  clear XA4 XX4 D4 F4 U4
  have V5 := hid (hF2)
  clear hb5 hF2
  have a0 := XA5.out.c 0 rfl
  have af0 := XA5.out.f 0 rfl
  have a1 := XA5.out.c 1 rfl
  have af1 := XA5.out.f 1 rfl
  have az := XA5.out.size
  have x0 := XX5.out.c 0 rfl
  have xf0 := XX5.out.f 0 rfl
  have x1 := XX5.out.c 1 rfl
  have xf1 := XX5.out.f 1 rfl
  have xz := XX5.out.size
  obtain ⟨w6, hV⟩ : ∃ V, V = w5.alloc (.cells #[.int .i64 S, .slice o2 n2 c2] 25) := ⟨_, rfl⟩
  have hz6 : w5.heap.size ≤ w6.heap.size := by rw [hV]; simp
  have hs6 : w.heap.size ≤ w6.heap.size := Nat.le_trans hs5 hz6
  have hB6 : Below w.heap.size w w6 := by rw [hV]; exact Below.allocS hB5 _
  have XA6 := hid (XA5.out.alloc (.cells #[.int .i64 S, .slice o2 n2 c2] 25))
  rw [← hV] at XA6
  have XX6 := hid (XX5.out.alloc (.cells #[.int .i64 S, .slice o2 n2 c2] 25))
  rw [← hV] at XX6
  have D6 := hid (D5.out.later (below1 w5 (.cells #[.int .i64 S, .slice o2 n2 c2] 25)))
  rw [← hV] at D6
  have F6 := hid (F5.out.later (below1 w5 (.cells #[.int .i64 S, .slice o2 n2 c2] 25)))
  rw [← hV] at F6
  have U6 := hid (U5.out.later (below1 w5 (.cells #[.int .i64 S, .slice o2 n2 c2] 25)))
  rw [← hV] at U6
  have V6 := hid (V5.out.later (below1 w5 (.cells #[.int .i64 S, .slice o2 n2 c2] 25)))
  rw [← hV] at V6
  have H6 : Hid (w6 = w5.alloc (.cells #[.int .i64 S, .slice o2 n2 c2] 25)) := hV
  clear hV XA5 XX5 D5 F5 U5 V5
  have XY6 : Hid (Bx w6 w5.heap.size [.int .i64 S, .slice o2 n2 c2]) := by rw [H6.out]; exact Bx.new [.int .i64 S, .slice o2 n2 c2] _ rfl
  have hy6 : w5.heap.size < w6.heap.size := XY6.out.size
  have hce : (cd != cd) = false := by simp
  go_wp2_with fail
  clear a0 af0 a1 af1 az x0 xf0 x1 xf1 xz
  rw [← H6.out]
  refine (sameInts_same go go2 gc gc2 l w6 (by omega) U6.out V6.out).mono ?_
  rintro e w7 ⟨rfl, hb7⟩
  have hB7 := hB6.trans (hb7.mono hB6.size)
  have hs7 : w.heap.size ≤ w7.heap.size := Nat.le_trans hs6 hb7.size
  have hz7 : w6.heap.size ≤ w7.heap.size := hb7.size
  have XA7 := hid (XA6.out.later hb7)
  have XX7 := hid (XX6.out.later hb7)
  have XY7 := hid (XY6.out.later hb7)
  have D7 := hid (D6.out.later hb7)
  have F7 := hid (F6.out.later hb7)
  have U7 := hid (U6.out.later hb7)
  have V7 := hid (V6.out.later hb7)
  clear XA6 XX6 XY6 D6 F6 U6 V6
  clear hb7
  clear V7
  by_cases h3 : cd = 3
  case pos =>
    subst h3
    obtain ⟨rfl, hw, _⟩ := pub_full HR.out
    have HW := hid hw
    clear hw
    have a0 := XA7.out.c 0 rfl
    have af0 := XA7.out.f 0 rfl
    have a1 := XA7.out.c 1 rfl
    have af1 := XA7.out.f 1 rfl
    have az := XA7.out.size
    have x0 := XX7.out.c 0 rfl
    have xf0 := XX7.out.f 0 rfl
    have x1 := XX7.out.c 1 rfl
    have xf1 := XX7.out.f 1 rfl
    have xz := XX7.out.size
    have y0 := XY7.out.c 0 rfl
    have yf0 := XY7.out.f 0 rfl
    have y1 := XY7.out.c 1 rfl
    have yf1 := XY7.out.f 1 rfl
    have yz := XY7.out.size
    go_wp2_with fail
    clear a0 af0 a1 af1 az x0 xf0 x1 xf1 xz y0 yf0 y1 yf1 yz
    refine (implWait_as S o c us l true w7 (by omega) HF.out D7.out.in HW.out).mono ?_
    rintro e w8 ⟨⟨gw, gwc, rfl, hF2⟩, hb8⟩
    have hB8 := hB7.trans (hb8.mono hB7.size)
    have hs8 : w.heap.size ≤ w8.heap.size := Nat.le_trans hs7 hb8.size
    have hz8 : w7.heap.size ≤ w8.heap.size := hb8.size
    have XA8 := hid (XA7.out.later hb8)
    have XX8 := hid (XX7.out.later hb8)
    have XY8 := hid (XY7.out.later hb8)
    have D8 := hid (D7.out.later hb8)
    have F8 := hid (F7.out.later hb8)
    have U8 := hid (U7.out.later hb8)
    clear XA7 XX7 XY7 D7 F7 U7
    have V8 := hid (hF2)
    clear hb8 hF2
    have a0 := XA8.out.c 0 rfl
    have af0 := XA8.out.f 0 rfl
    have a1 := XA8.out.c 1 rfl
    have af1 := XA8.out.f 1 rfl
    have az := XA8.out.size
    have x0 := XX8.out.c 0 rfl
    have xf0 := XX8.out.f 0 rfl
    have x1 := XX8.out.c 1 rfl
    have xf1 := XX8.out.f 1 rfl
    have xz := XX8.out.size
    have y0 := XY8.out.c 0 rfl
    have yf0 := XY8.out.f 0 rfl
    have y1 := XY8.out.c 1 rfl
    have yf1 := XY8.out.f 1 rfl
    have yz := XY8.out.size
    go_wp2_with fail
    clear a0 af0 a1 af1 az x0 xf0 x1 xf1 xz y0 yf0 y1 yf1 yz
    refine (sameInts_same gw go gwc gc l w8 (by omega) V8.out U8.out).mono ?_
    rintro e w9 ⟨rfl, hb9⟩
    have hB9 := hB8.trans (hb9.mono hB8.size)
    have hs9 : w.heap.size ≤ w9.heap.size := Nat.le_trans hs8 hb9.size
    have hz9 : w8.heap.size ≤ w9.heap.size := hb9.size
    have XA9 := hid (XA8.out.later hb9)
    have XX9 := hid (XX8.out.later hb9)
    have XY9 := hid (XY8.out.later hb9)
    have D9 := hid (D8.out.later hb9)
    have F9 := hid (F8.out.later hb9)
    have U9 := hid (U8.out.later hb9)
    have V9 := hid (V8.out.later hb9)
    clear XA8 XX8 XY8 D8 F8 U8 V8
    clear hb9
    have hse : (S == S) = true := by simp
    have a0 := XA9.out.c 0 rfl
    have af0 := XA9.out.f 0 rfl
    have a1 := XA9.out.c 1 rfl
    have af1 := XA9.out.f 1 rfl
    have az := XA9.out.size
    have x0 := XX9.out.c 0 rfl
    have xf0 := XX9.out.f 0 rfl
    have x1 := XX9.out.c 1 rfl
    have xf1 := XX9.out.f 1 rfl
    have xz := XX9.out.size
    have y0 := XY9.out.c 0 rfl
    have yf0 := XY9.out.f 0 rfl
    have y1 := XY9.out.c 1 rfl
    have yf1 := XY9.out.f 1 rfl
    have yz := XY9.out.size
    go_wp2
    go_ret
    exact ⟨rfl, hB9⟩
  have h3f : (cd == 3) = false := by simpa using h3
  by_cases h0 : cd = 0
  case neg =>
    have h0t : (cd != 0) = true := by simpa using h0
    have a0 := XA7.out.c 0 rfl
    have af0 := XA7.out.f 0 rfl
    have a1 := XA7.out.c 1 rfl
    have af1 := XA7.out.f 1 rfl
    have az := XA7.out.size
    have x0 := XX7.out.c 0 rfl
    have xf0 := XX7.out.f 0 rfl
    have x1 := XX7.out.c 1 rfl
    have xf1 := XX7.out.f 1 rfl
    have xz := XX7.out.size
    have y0 := XY7.out.c 0 rfl
    have yf0 := XY7.out.f 0 rfl
    have y1 := XY7.out.c 1 rfl
    have yf1 := XY7.out.f 1 rfl
    have yz := XY7.out.size
    go_wp2
    go_ret
    exact ⟨rfl, hB7⟩
  subst h0
  clear h3 h3f hce
  obtain ⟨hg, hPl, h10, hl10, hall⟩ := pub_all HR.out
  rw [List.length_map] at hPl h10 hall
  have HG := hid hg
  have HAL := hid hall
  have hu1l : u1.length = us.length := by rw [← hPl, ← HU.out, List.length_map]
  have HUL := hid hu1l
  have HPL := hid hPl
  clear hg hall hPl hu1l
  have HFU := hid (fits_map HU.out (good_neat HG.out))
  have a0 := XA7.out.c 0 rfl
  have af0 := XA7.out.f 0 rfl
  have a1 := XA7.out.c 1 rfl
  have af1 := XA7.out.f 1 rfl
  have az := XA7.out.size
  have x0 := XX7.out.c 0 rfl
  have xf0 := XX7.out.f 0 rfl
  have x1 := XX7.out.c 1 rfl
  have xf1 := XX7.out.f 1 rfl
  have xz := XX7.out.size
  have y0 := XY7.out.c 0 rfl
  have yf0 := XY7.out.f 0 rfl
  have y1 := XY7.out.c 1 rfl
  have yf1 := XY7.out.f 1 rfl
  have yz := XY7.out.size
  go_wp2_with fail
  clear a0 af0 a1 af1 az x0 xf0 x1 xf1 xz y0 yf0 y1 yf1 yz
  refine (implGood_is S o1 c1 u1 w7 true (by have := HUL.out; omega) HFU.out F7.out (by rw [HU.out]; exact HG.out)).mono ?_
  rintro e w8 ⟨rfl, hb8⟩
  have hB8 := hB7.trans (hb8.mono hB7.size)
  have hs8 : w.heap.size ≤ w8.heap.size := Nat.le_trans hs7 hb8.size
  have hz8 : w7.heap.size ≤ w8.heap.size := hb8.size
  have XA8 := hid (XA7.out.later hb8)
  have XX8 := hid (XX7.out.later hb8)
  have XY8 := hid (XY7.out.later hb8)
  have D8 := hid (D7.out.later hb8)
  have F8 := hid (F7.out.later hb8)
  have U8 := hid (U7.out.later hb8)
  clear XA7 XX7 XY7 D7 F7 U7
  clear hb8
  have a0 := XA8.out.c 0 rfl
  have af0 := XA8.out.f 0 rfl
  have a1 := XA8.out.c 1 rfl
  have af1 := XA8.out.f 1 rfl
  have az := XA8.out.size
  have x0 := XX8.out.c 0 rfl
  have xf0 := XX8.out.f 0 rfl
  have x1 := XX8.out.c 1 rfl
  have xf1 := XX8.out.f 1 rfl
  have xz := XX8.out.size
  have y0 := XY8.out.c 0 rfl
  have yf0 := XY8.out.f 0 rfl
  have y1 := XY8.out.c 1 rfl
  have yf1 := XY8.out.f 1 rfl
  have yz := XY8.out.size
  go_wp2
  clear a0 af0 a1 af1 az x0 xf0 x1 xf1 xz y0 yf0 y1 yf1 yz
  go_loopw [81] (fun i wq => ∃ j : Nat, j ≤ us.length ∧ i = .int .i64 (j : Int) ∧ Hid (Below w8.heap.size w8 wq)) (fun i _ => us.length - (intOf i).toNat)
  case atStart => exact ⟨0, Nat.zero_le _, rfl, hid (Below.refl _ _)⟩
  case round =>
    rename World => wq
    obtain ⟨j, hj, rfl, HBr⟩ := hrel
    by_cases hlt : j < us.length
    case neg =>
      obtain rfl : j = us.length := by omega
      go_wp2
      go_ret
      exact ⟨rfl, hB8.trans (HBr.out.mono hB8.size)⟩
    have D200 := hid (D8.out.later HBr.out)
    have F200 := hid (F8.out.later HBr.out)
    have U200 := hid (U8.out.later HBr.out)
    have XA200 := hid (XA8.out.later HBr.out)
    have XX200 := hid (XX8.out.later HBr.out)
    have hB200 := hB8.trans (HBr.out.mono hB8.size)
    have hs200 : w.heap.size ≤ wq.heap.size := hB200.size
    have hzr : w8.heap.size ≤ wq.heap.size := HBr.out.size
    obtain ⟨⟨nd, kap, dr, dp, ⟨qo, qc, q⟩⟩, ex⟩ : ∃ v, v = el us j := ⟨_, rfl⟩
    obtain ⟨⟨nd1, kap1, dr1, dp1, ⟨qo1, qc1, q1⟩⟩, ex1⟩ : ∃ v, v = el u1 j := ⟨_, rfl⟩
    obtain ⟨b0, off0, rfl, hb0, hc0, hi0⟩ := TI.at (show TI wq o us from D200.out.in) hlt ex.symm
    obtain ⟨b1, off1, rfl, hb1, hc1, _⟩ := TI.at F200.out (show j < u1.length by have := HUL.out; omega) ex1.symm
    obtain ⟨ha1, ha2, ha3, ha4⟩ := HAL.out j hlt
    have hp1 : el P j = valSub (el u1 j) := by rw [← HU.out, el_val (show j < u1.length by have := HUL.out; omega)]
    obtain ⟨h4t, h4f⟩ := pub_q HR.out (i := j) (by simpa using hlt)
    clear ha4
    rw [hp1, el_val hlt, ← ex, ← ex1] at ha3 h4t h4f
    rw [el_val hlt, ← ex] at ha1 ha2
    rw [← ex1] at hp1
    dsimp only [valSub] at ha1 ha2 ha3 h4t h4f hp1
    have H4T := hid h4t
    have H4F := hid h4f
    clear h4t h4f
    have ha3s := ha3.symm
    subst ha3s
    clear ha3
    obtain ⟨d1, d2, d3, d4, d5⟩ := hc0
    have hq5 := hc1.2.2.2.2
    have EX1 := hid ex1
    have EX0 := hid ex
    clear hc1 ex ex1
    have HI0 := hid hi0
    clear hi0
    have hltI : (j : Int) < (us.length : Int) := by omega
    have hlt1I : (j : Int) < (u1.length : Int) := by have := HUL.out; omega
    have HP1 := hid hp1
    clear hp1
    have a0 := XA200.out.c 0 rfl
    have af0 := XA200.out.f 0 rfl
    have a1 := XA200.out.c 1 rfl
    have af1 := XA200.out.f 1 rfl
    have az := XA200.out.size
    have x0 := XX200.out.c 0 rfl
    have xf0 := XX200.out.f 0 rfl
    have x1 := XX200.out.c 1 rfl
    have xf1 := XX200.out.f 1 rfl
    have xz := XX200.out.size
    obtain ⟨w201, hV⟩ : ∃ V, V = wq.alloc (.cells #[.int .i64 nd, .int .i64 kap, .bool dr, .int .i64 dp, .slice qo q.length qc] 36) := ⟨_, rfl⟩
    have hz201 : wq.heap.size ≤ w201.heap.size := by rw [hV]; simp
    have hs201 : w.heap.size ≤ w201.heap.size := Nat.le_trans hs200 hz201
    have hB201 : Below w.heap.size w w201 := by rw [hV]; exact Below.allocS hB200 _
    have XA201 := hid (XA200.out.alloc (.cells #[.int .i64 nd, .int .i64 kap, .bool dr, .int .i64 dp, .slice qo q.length qc] 36))
    rw [← hV] at XA201
    have XX201 := hid (XX200.out.alloc (.cells #[.int .i64 nd, .int .i64 kap, .bool dr, .int .i64 dp, .slice qo q.length qc] 36))
    rw [← hV] at XX201
    have D201 := hid (D200.out.later (below1 wq (.cells #[.int .i64 nd, .int .i64 kap, .bool dr, .int .i64 dp, .slice qo q.length qc] 36)))
    rw [← hV] at D201
    have F201 := hid (F200.out.later (below1 wq (.cells #[.int .i64 nd, .int .i64 kap, .bool dr, .int .i64 dp, .slice qo q.length qc] 36)))
    rw [← hV] at F201
    have U201 := hid (U200.out.later (below1 wq (.cells #[.int .i64 nd, .int .i64 kap, .bool dr, .int .i64 dp, .slice qo q.length qc] 36)))
    rw [← hV] at U201
    have H201 : Hid (w201 = wq.alloc (.cells #[.int .i64 nd, .int .i64 kap, .bool dr, .int .i64 dp, .slice qo q.length qc] 36)) := hV
    clear hV XA200 XX200 D200 F200 U200
    have XS201 : Hid (Bx w201 wq.heap.size [.int .i64 nd, .int .i64 kap, .bool dr, .int .i64 dp, .slice qo q.length qc]) := by rw [H201.out]; exact Bx.new [.int .i64 nd, .int .i64 kap, .bool dr, .int .i64 dp, .slice qo q.length qc] _ rfl
    have hy201 : wq.heap.size < w201.heap.size := XS201.out.size
    go_upto_region 18 with fail
    clear a0 af0 a1 af1 az x0 xf0 x1 xf1 xz
    rw [← H201.out]
    clear d1 d2 d3 d4 d5
    have a0 := XA201.out.c 0 rfl
    have af0 := XA201.out.f 0 rfl
    have a1 := XA201.out.c 1 rfl
    have af1 := XA201.out.f 1 rfl
    have az := XA201.out.size
    have x0 := XX201.out.c 0 rfl
    have xf0 := XX201.out.f 0 rfl
    have x1 := XX201.out.c 1 rfl
    have xf1 := XX201.out.f 1 rfl
    have xz := XX201.out.size
    have s0 := XS201.out.c 0 rfl
    have sf0 := XS201.out.f 0 rfl
    have s1 := XS201.out.c 1 rfl
    have sf1 := XS201.out.f 1 rfl
    have s2 := XS201.out.c 2 rfl
    have sf2 := XS201.out.f 2 rfl
    have s3 := XS201.out.c 3 rfl
    have sf3 := XS201.out.f 3 rfl
    have s4 := XS201.out.c 4 rfl
    have sf4 := XS201.out.f 4 rfl
    have sz := XS201.out.size
    have HE : Hid (kI.Own w201.heap.size (w201.alloc (.cells #[] 3)) (.slice (some ⟨w201.heap.size, 0, none⟩) 0 0) []) := hid (Kind.Own.new kI _ w201 (Nat.le_refl _))
    have QE : Hid (kI.In wq.heap.size (w201.alloc (.cells #[] 3)) qo q) := hid (HI0.out.below (by rw [H201.out]; exact Below.allocS (Below.allocS (Below.refl _ _) _) _))
    go_wp2_with (first | (at_builtin; have _g := HO91; refine Kind.app2 kI_ok (w91.alloc (.cells #[.int .i64 x] 3)) rfl (.tmp 89) (.tmp 91) rfl w201.heap.size v1 ([] ++ q) rfl HO91.out (by have := hb91.out.size; omega) (some ⟨w91.heap.size, 0, none⟩) [x] 1 1 rfl rfl _ HI91.out (by simp; omega) ?_; intro v2 w92 hO92 hB92 _ _; have hb92 : Hid (Below w201.heap.size w201 w92) := hid (hb91.out.trans hB92); obtain ⟨qo2, qc2, rfl, hO93⟩ := hO92.as; have HO93 := hid (Kind.RW.of hO93); have s08 := (XS201.out.later hb92.out).c 0 rfl; have s18 := (XS201.out.later hb92.out).c 1 rfl; have s28 := (XS201.out.later hb92.out).c 2 rfl; have s38 := (XS201.out.later hb92.out).c 3 rfl; have s48 := (XS201.out.later hb92.out).c 4 rfl; clear hO92 hB92 hO93) | (at_builtin; refine Kind.app2 kI_ok (w201.alloc (.cells #[] 3)) rfl (.tmp 86) (.tmp 88) rfl w201.heap.size (.slice (some ⟨w201.heap.size, 0, none⟩) 0 0) [] rfl HE.out (by simp) qo q q.length qc rfl rfl _ QE.out (by simp; omega) ?_; intro v1 w91 hO91 hB91 _ _; have HO91 := hid (hO91.below (below1 w91 (.cells #[.int .i64 x] 3))); have hb91 : Hid (Below w201.heap.size w201 (w91.alloc (.cells #[.int .i64 x] 3))) := hid (Below.allocS ((below1 w201 (.cells #[] 3)).trans (hB91.mono (by simp))) _); have HI91 : Hid (kI.In (w91.heap.size + 1) (w91.alloc (.cells #[.int .i64 x] 3)) (some ⟨w91.heap.size, 0, none⟩) [x]) := int_one (by omega) (by simp); have hz91 := hB91.size; have s09 := (XS201.out.later ((below1 w201 (.cells #[] 3)).trans (hB91.mono (by simp)))).c 0 rfl; have s19 := (XS201.out.later ((below1 w201 (.cells #[] 3)).trans (hB91.mono (by simp)))).c 1 rfl; have s29 := (XS201.out.later ((below1 w201 (.cells #[] 3)).trans (hB91.mono (by simp)))).c 2 rfl; have s39 := (XS201.out.later ((below1 w201 (.cells #[] 3)).trans (hB91.mono (by simp)))).c 3 rfl; have s49 := (XS201.out.later ((below1 w201 (.cells #[] 3)).trans (hB91.mono (by simp)))).c 4 rfl; clear hO91 hB91))
    clear a0 af0 a1 af1 az x0 xf0 x1 xf1 xz s0 sf0 s1 sf1 s2 sf2 s3 sf3 s4 sf4 sz
    clear HE QE HO91 hb91 HI91 hz91 hq5 s09 s08 s19 s18 s29 s28 s39 s38 s49 s48
    have hb92b := hb92.out
    have HC1 := hid hb92b
    clear hb92
    have hB300 := hB201.trans (hb92b.mono hB201.size)
    have hs300 : w.heap.size ≤ w92.heap.size := Nat.le_trans hs201 hb92b.size
    have hz300 : w201.heap.size ≤ w92.heap.size := hb92b.size
    have XA300 := hid (XA201.out.later hb92b)
    have XX300 := hid (XX201.out.later hb92b)
    have XS300 := hid (XS201.out.later hb92b)
    have D300 := hid (D201.out.later hb92b)
    have F300 := hid (F201.out.later hb92b)
    have U300 := hid (U201.out.later hb92b)
    clear XA201 XX201 XS201 D201 F201 U201
    clear hb92b
    obtain ⟨Q, hQ⟩ : ∃ Q, Q = [] ++ q ++ [x] := ⟨_, rfl⟩
    rw [← hQ] at HO93
    have HQL : Hid (Q.length = q.length + 1) := hid (by rw [hQ]; simp)
    have hQ0 : 0 < Q.length := by have := HQL.out; omega
    have HQE : Hid (Q = q ++ [x]) := hid (by rw [hQ]; simp)
    clear hQ
    obtain ⟨gq, rfl, hgq1, hgq2, hgq3, _⟩ := (fresh_rw HO93.out hQ0).at hQ0
    have hcap := HO93.out.cap
    have M300 := HO93
    clear HO93
    rw [show q.length + 1 = Q.length from HQL.out.symm]
    obtain ⟨fb, hfb⟩ : ∃ b, b = fullB (nd, kap, dr, dp, q) := ⟨_, rfl⟩
    have ha1b : hasB l nd = fb := ha1.trans hfb.symm
    have HFB := hid hfb
    clear hfb ha1
    refine (has_is _ go gc l nd w92 fb (by omega) U300.out ha1b).mono ?_
    rintro e w3 ⟨rfl, hw⟩
    rw [hw]
    clear hw w3
    cases fb
    · have ha4 := H4F.out HFB.out.symm
      have hQ1 : Q = q1 := by rw [HQE.out, ha4]
      clear ha4
      have hQs := hQ1.symm
      clear hQ1
      subst hQs
      have hq1l : q1.length ≤ 21 := by have h2 := HQL.out; omega
      obtain ⟨b1x, off1x, e, hb1x, hc1x, hi1x⟩ := TI.at F300.out (show j < u1.length by have := HUL.out; omega) EX1.out.symm
      cases e
      have hq5 := hc1x.2.2.2.2
      clear hc1x
      have a0 := XA300.out.c 0 rfl
      have af0 := XA300.out.f 0 rfl
      have a1 := XA300.out.c 1 rfl
      have af1 := XA300.out.f 1 rfl
      have az := XA300.out.size
      have x0 := XX300.out.c 0 rfl
      have xf0 := XX300.out.f 0 rfl
      have x1 := XX300.out.c 1 rfl
      have xf1 := XX300.out.f 1 rfl
      have xz := XX300.out.size
      have s0 := XS300.out.c 0 rfl
      have sf0 := XS300.out.f 0 rfl
      have s1 := XS300.out.c 1 rfl
      have sf1 := XS300.out.f 1 rfl
      have s2 := XS300.out.c 2 rfl
      have sf2 := XS300.out.f 2 rfl
      have s3 := XS300.out.c 3 rfl
      have sf3 := XS300.out.f 3 rfl
      have s4 := XS300.out.c 4 rfl
      have sf4 := XS300.out.f 4 rfl
      have sz := XS300.out.size
      go_wp2_with fail
      clear a0 af0 a1 af1 az x0 xf0 x1 xf1 xz s0 sf0 s1 sf1 s2 sf2 s3 sf3 s4 sf4 sz
      clear hq5
      refine (sameInts_same (some ⟨gq, 0, none⟩) qo1 qc2 qc1 q1 w92 (by omega) M300.out.in hi1x).mono ?_
      clear hi1x
      rintro e w301 ⟨rfl, hb301⟩
      have HC2 := hid hb301
      have hB301 := hB300.trans (hb301.mono hB300.size)
      have hs301 : w.heap.size ≤ w301.heap.size := Nat.le_trans hs300 hb301.size
      have hz301 : w92.heap.size ≤ w301.heap.size := hb301.size
      have XA301 := hid (XA300.out.later hb301)
      have XX301 := hid (XX300.out.later hb301)
      have XS301 := hid (XS300.out.later hb301)
      have D301 := hid (D300.out.later hb301)
      have F301 := hid (F300.out.later hb301)
      have U301 := hid (U300.out.later hb301)
      have M301 := hid (M300.out.later hb301)
      clear XA300 XX300 XS300 D300 F300 U300 M300
      clear hb301
      have G301 := hid (TZ.of_in (a := w301.heap.size) F301.out (Nat.le_refl _))
      have a0 := XA301.out.c 0 rfl
      have af0 := XA301.out.f 0 rfl
      have a1 := XA301.out.c 1 rfl
      have af1 := XA301.out.f 1 rfl
      have az := XA301.out.size
      have x0 := XX301.out.c 0 rfl
      have xf0 := XX301.out.f 0 rfl
      have x1 := XX301.out.c 1 rfl
      have xf1 := XX301.out.f 1 rfl
      have xz := XX301.out.size
      have s0 := XS301.out.c 0 rfl
      have sf0 := XS301.out.f 0 rfl
      have s1 := XS301.out.c 1 rfl
      have sf1 := XS301.out.f 1 rfl
      have s2 := XS301.out.c 2 rfl
      have sf2 := XS301.out.f 2 rfl
      have s3 := XS301.out.c 3 rfl
      have sf3 := XS301.out.f 3 rfl
      have s4 := XS301.out.c 4 rfl
      have sf4 := XS301.out.f 4 rfl
      have sz := XS301.out.size
      obtain ⟨w302, hV⟩ : ∃ V, V = w301.alloc (.cells #[.int .i64 S, .slice (some ⟨b1, off1, none⟩) u1.length c1] 25) := ⟨_, rfl⟩
      have hz302 : w301.heap.size ≤ w302.heap.size := by rw [hV]; simp
      have hs302 : w.heap.size ≤ w302.heap.size := Nat.le_trans hs301 hz302
      have hB302 : Below w.heap.size w w302 := by rw [hV]; exact Below.allocS hB301 _
      have XA302 := hid (XA301.out.alloc (.cells #[.int .i64 S, .slice (some ⟨b1, off1, none⟩) u1.length c1] 25))
      rw [← hV] at XA302
      have XX302 := hid (XX301.out.alloc (.cells #[.int .i64 S, .slice (some ⟨b1, off1, none⟩) u1.length c1] 25))
      rw [← hV] at XX302
      have XS302 := hid (XS301.out.alloc (.cells #[.int .i64 S, .slice (some ⟨b1, off1, none⟩) u1.length c1] 25))
      rw [← hV] at XS302
      have D302 := hid (D301.out.later (below1 w301 (.cells #[.int .i64 S, .slice (some ⟨b1, off1, none⟩) u1.length c1] 25)))
      rw [← hV] at D302
      have F302 := hid (F301.out.later (below1 w301 (.cells #[.int .i64 S, .slice (some ⟨b1, off1, none⟩) u1.length c1] 25)))
      rw [← hV] at F302
      have U302 := hid (U301.out.later (below1 w301 (.cells #[.int .i64 S, .slice (some ⟨b1, off1, none⟩) u1.length c1] 25)))
      rw [← hV] at U302
      have M302 := hid (M301.out.later (below1 w301 (.cells #[.int .i64 S, .slice (some ⟨b1, off1, none⟩) u1.length c1] 25)))
      rw [← hV] at M302
      have G302 := hid (G301.out.later (below1 w301 (.cells #[.int .i64 S, .slice (some ⟨b1, off1, none⟩) u1.length c1] 25)))
      rw [← hV] at G302
      have H302 : Hid (w302 = w301.alloc (.cells #[.int .i64 S, .slice (some ⟨b1, off1, none⟩) u1.length c1] 25)) := hV
      clear hV XA301 XX301 XS301 D301 F301 U301 M301 G301
      have XT302 : Hid (Bx w302 w301.heap.size [.int .i64 S, .slice (some ⟨b1, off1, none⟩) u1.length c1]) := by rw [H302.out]; exact Bx.new [.int .i64 S, .slice (some ⟨b1, off1, none⟩) u1.length c1] _ rfl
      have hy302 : w301.heap.size < w302.heap.size := XT302.out.size
      go_upto_region 24 with fail
      clear a0 af0 a1 af1 az x0 xf0 x1 xf1 xz s0 sf0 s1 sf1 s2 sf2 s3 sf3 s4 sf4 sz
      rw [← H302.out]
      have a0 := XA302.out.c 0 rfl
      have af0 := XA302.out.f 0 rfl
      have a1 := XA302.out.c 1 rfl
      have af1 := XA302.out.f 1 rfl
      have az := XA302.out.size
      have x0 := XX302.out.c 0 rfl
      have xf0 := XX302.out.f 0 rfl
      have x1 := XX302.out.c 1 rfl
      have xf1 := XX302.out.f 1 rfl
      have xz := XX302.out.size
      have s0 := XS302.out.c 0 rfl
      have sf0 := XS302.out.f 0 rfl
      have s1 := XS302.out.c 1 rfl
      have sf1 := XS302.out.f 1 rfl
      have s2 := XS302.out.c 2 rfl
      have sf2 := XS302.out.f 2 rfl
      have s3 := XS302.out.c 3 rfl
      have sf3 := XS302.out.f 3 rfl
      have s4 := XS302.out.c 4 rfl
      have sf4 := XS302.out.f 4 rfl
      have sz := XS302.out.size
      have t0 := XT302.out.c 0 rfl
      have tf0 := XT302.out.f 0 rfl
      have t1 := XT302.out.c 1 rfl
      have tf1 := XT302.out.f 1 rfl
      have tz := XT302.out.size
      go_wp2
      clear a0 af0 a1 af1 az x0 xf0 x1 xf1 xz s0 sf0 s1 sf1 s2 sf2 s3 sf3 s4 sf4 sz t0 tf0 t1 tf1 tz
      have HST : Hid (u1.map valSub = P.set j ((nd, kap1, dr1, dp1, q1) : PSub) ∧ topicB S (P.set j ((nd, kap1, dr1, dp1, q1) : PSub)) = true) := by have e : P.set j ((nd, kap1, dr1, dp1, q1) : PSub) = P := (by rw [← HP1.out]; exact set_el (by have := HPL.out; omega)); rw [Hid, e]; exact ⟨HU.out, HG.out⟩
      go_loopw [111] (fun i w5 => ∃ (i2 : Nat) (o5 : Option Addr) (c5 : Nat) (u5 : List LSub), i = .int .i64 (i2 : Int) ∧ i2 ≤ q1.length ∧ Hid (u5.map valSub = P.set j ((nd, kap1, dr1, dp1, q1.drop i2) : PSub) ∧ topicB S (P.set j ((nd, kap1, dr1, dp1, q1.drop i2) : PSub)) = true) ∧ Hid (Bx w5 w301.heap.size [.int .i64 S, .slice o5 u5.length c5]) ∧ Hid (TZ w301.heap.size w5 o5 u5) ∧ Hid (kI.RW w201.heap.size w92.heap.size w5 (some ⟨gq, 0, none⟩) qc2 q1) ∧ Hid (Bx w5 wq.heap.size [.int .i64 nd, .int .i64 kap, .bool dr, .int .i64 dp, .slice qo q.length qc]) ∧ Hid (Below w301.heap.size w301 w5) ∧ w302.heap.size ≤ w5.heap.size) (fun i _ => q1.length - (intOf i).toNat)
      case atStart => exact ⟨0, _, c1, u1, rfl, Nat.zero_le _, by simpa using HST, XT302, G302, M302, XS302, hid (by rw [H302.out]; exact below1 _ _), Nat.le_refl _⟩
      case round =>
        clear HST XT302 G302 XS302 M302
        rename World => w5
        obtain ⟨i2, o5, c5, u5, rfl, hi2, HS5, XT400, G400, M400, XS400, HB5, hsz5⟩ := hrel
        have hB400 := hB301.trans (HB5.out.mono hB301.size)
        have hs400 : w.heap.size ≤ w5.heap.size := hB400.size
        have hu5 : u5.length ≤ 10 := by have h := (good_neat HS5.out.2).1; rw [← HS5.out.1, List.length_map] at h; exact h
        have HF5 := hid (fits_map HS5.out.1 (good_neat HS5.out.2))
        by_cases hlt5 : i2 < q1.length
        case pos =>
          obtain ⟨bb, ff, e, hbb, hcc⟩ := ints_at M400.out.in hlt5
          cases e
          obtain ⟨v5, hv5⟩ : ∃ v, v = el q1 i2 := ⟨_, rfl⟩
          have hw5 := hcc i2 hlt5
          rw [← hv5] at hw5
          rw [Nat.zero_add] at hw5
          clear hcc
          obtain ⟨hh1, hh2⟩ := hear_set (show j < P.length by have := HPL.out; omega) hlt5 HS5.out.2
          rw [← hv5, ← HS5.out.1] at hh1
          have HH1 := hid hh1
          have HH2 := hid hh2
          clear hh1 hh2 hv5
          have hlt5I : (i2 : Int) < (q1.length : Int) := by omega
          have hvv : (v5 != v5) = false := by simp
          have t0 := XT400.out.c 0 rfl
          have tf0 := XT400.out.f 0 rfl
          have t1 := XT400.out.c 1 rfl
          have tf1 := XT400.out.f 1 rfl
          have tz := XT400.out.size
          have s0 := XS400.out.c 0 rfl
          have sf0 := XS400.out.f 0 rfl
          have s1 := XS400.out.c 1 rfl
          have sf1 := XS400.out.f 1 rfl
          have s2 := XS400.out.c 2 rfl
          have sf2 := XS400.out.f 2 rfl
          have s3 := XS400.out.c 3 rfl
          have sf3 := XS400.out.f 3 rfl
          have s4 := XS400.out.c 4 rfl
          have sf4 := XS400.out.f 4 rfl
          have sz := XS400.out.size
          go_wp2_with fail
          clear t0 tf0 t1 tf1 tz s0 sf0 s1 sf1 s2 sf2 s3 sf3 s4 sf4 sz
          refine (implHear_as S o5 c5 u5 nd S (P.set j ((nd, kap1, dr1, dp1, q1.drop (i2 + 1)) : PSub)) v5 0 w5 (by omega) HF5.out G400.out.in HH1.out).mono ?_
          rintro e w401 ⟨⟨o6, c6, u6, rfl, hu6, hF6⟩, hb401⟩
          have hbm4 := hb401
          have hB401 := hB400.trans (hb401.mono hB400.size)
          have hs401 : w.heap.size ≤ w401.heap.size := Nat.le_trans hs400 hb401.size
          have hz401 : w5.heap.size ≤ w401.heap.size := hb401.size
          have XT401 := hid (XT400.out.later hb401)
          have XS401 := hid (XS400.out.later hb401)
          have G401 := hid (G400.out.later hb401)
          have M401 := hid (M400.out.later hb401)
          clear XT400 XS400 G400 M400
          clear hb401
          clear hw5
          have N401 := hid (TZ.of_fr (a := w301.heap.size) hF6 (by omega))
          have HU6 := hid hu6
          clear hF6 hu6 G401
          have t0 := XT401.out.c 0 rfl
          have tf0 := XT401.out.f 0 rfl
          have t1 := XT401.out.c 1 rfl
          have tf1 := XT401.out.f 1 rfl
          have tz := XT401.out.size
          have s0 := XS401.out.c 0 rfl
          have sf0 := XS401.out.f 0 rfl
          have s1 := XS401.out.c 1 rfl
          have sf1 := XS401.out.f 1 rfl
          have s2 := XS401.out.c 2 rfl
          have sf2 := XS401.out.f 2 rfl
          have s3 := XS401.out.c 3 rfl
          have sf3 := XS401.out.f 3 rfl
          have s4 := XS401.out.c 4 rfl
          have sf4 := XS401.out.f 4 rfl
          have sz := XS401.out.size
          obtain ⟨w402, hV⟩ : ∃ V, V = w401.alloc (.cells #[.int .i64 S, .slice o6 u6.length c6] 25) := ⟨_, rfl⟩
          have hz402 : w401.heap.size ≤ w402.heap.size := by rw [hV]; simp
          have hs402 : w.heap.size ≤ w402.heap.size := Nat.le_trans hs401 hz402
          have hB402 : Below w.heap.size w w402 := by rw [hV]; exact Below.allocS hB401 _
          have XT402 := hid (XT401.out.alloc (.cells #[.int .i64 S, .slice o6 u6.length c6] 25))
          rw [← hV] at XT402
          have XS402 := hid (XS401.out.alloc (.cells #[.int .i64 S, .slice o6 u6.length c6] 25))
          rw [← hV] at XS402
          have M402 := hid (M401.out.later (below1 w401 (.cells #[.int .i64 S, .slice o6 u6.length c6] 25)))
          rw [← hV] at M402
          have N402 := hid (N401.out.later (below1 w401 (.cells #[.int .i64 S, .slice o6 u6.length c6] 25)))
          rw [← hV] at N402
          have H402 : Hid (w402 = w401.alloc (.cells #[.int .i64 S, .slice o6 u6.length c6] 25)) := hV
          clear hV XT401 XS401 M401 N401
          have XQ402 : Hid (Bx w402 w401.heap.size [.int .i64 S, .slice o6 u6.length c6]) := by rw [H402.out]; exact Bx.new [.int .i64 S, .slice o6 u6.length c6] _ rfl
          have hy402 : w401.heap.size < w402.heap.size := XQ402.out.size
          go_upto_region 30 with fail
          clear t0 tf0 t1 tf1 tz s0 sf0 s1 sf1 s2 sf2 s3 sf3 s4 sf4 sz
          rw [← H402.out]
          have hbm5 : Below w5.heap.size w5 w402 := by rw [H402.out]; exact Below.allocS hbm4 _
          clear hbm4
          have t0 := XT402.out.c 0 rfl
          have tf0 := XT402.out.f 0 rfl
          have t1 := XT402.out.c 1 rfl
          have tf1 := XT402.out.f 1 rfl
          have tz := XT402.out.size
          have s0 := XS402.out.c 0 rfl
          have sf0 := XS402.out.f 0 rfl
          have s1 := XS402.out.c 1 rfl
          have sf1 := XS402.out.f 1 rfl
          have s2 := XS402.out.c 2 rfl
          have sf2 := XS402.out.f 2 rfl
          have s3 := XS402.out.c 3 rfl
          have sf3 := XS402.out.f 3 rfl
          have s4 := XS402.out.c 4 rfl
          have sf4 := XS402.out.f 4 rfl
          have sz := XS402.out.size
          have q0 := XQ402.out.c 0 rfl
          have qf0 := XQ402.out.f 0 rfl
          have q1 := XQ402.out.c 1 rfl
          have qf1 := XQ402.out.f 1 rfl
          have qz := XQ402.out.size
          obtain ⟨w403, hV⟩ : ∃ V, V = ((w402.setCell ⟨w301.heap.size, 0, none⟩ (.int .i64 S)).setCell ⟨w301.heap.size, 1, none⟩ (.slice o6 u6.length c6)) := ⟨_, rfl⟩
          have XT403 : Hid (Bx w403 w301.heap.size [.int .i64 S, .slice o6 u6.length c6]) := by rw [hV]; exact hid ((XT402.out.set 0 (.int .i64 S)).set 1 (.slice o6 u6.length c6))
          have XS403 : Hid (Bx w403 wq.heap.size [.int .i64 nd, .int .i64 kap, .bool dr, .int .i64 dp, .slice qo q.length qc]) := by rw [hV]; exact hid ((XS402.out.other (a := ⟨w301.heap.size, 0, none⟩) (by dsimp only; omega) (.int .i64 S)).other (a := ⟨w301.heap.size, 1, none⟩) (by dsimp only; omega) (.slice o6 u6.length c6))
          have M403 := hid ((M402.out.setOff (a := ⟨w301.heap.size, 0, none⟩) (by dsimp only; omega) (.int .i64 S)).setOff (a := ⟨w301.heap.size, 1, none⟩) (by dsimp only; omega) (.slice o6 u6.length c6))
          rw [← hV] at M403
          have N403 := hid ((N402.out.set 0 (.int .i64 S)).set 1 (.slice o6 u6.length c6))
          rw [← hV] at N403
          have hBm : Below w301.heap.size w301 w403 := by rw [hV]; exact ((HB5.out.trans (hbm5.mono (by omega))).setCell (p := ⟨w301.heap.size, 0, none⟩) (by simp) _).setCell (p := ⟨w301.heap.size, 1, none⟩) (by simp) _
          have hzm : w5.heap.size ≤ w403.heap.size := by rw [hV]; simp; omega
          have HVm := hid hV
          clear hV
          go_wp2
          clear t0 tf0 t1 tf1 tz s0 sf0 s1 sf1 s2 sf2 s3 sf3 s4 sf4 sz q0 qf0 q1 qf1 qz
          rw [← HVm.out]
          go_roundw
          case rel => exact ⟨i2 + 1, o6, c6, u6, by go_num, by omega, hid ⟨HU6.out, HH2.out⟩, XT403, N403, M403, XS403, hid hBm, by omega⟩
          case measure => simp [intOf]; omega
        obtain rfl : i2 = q1.length := by omega
        have e1 : Below wq.heap.size wq w201 := by rw [H201.out]; exact below1 _ _
        have e2 := e1.trans (HC1.out.mono e1.size)
        have e3 := e2.trans (HC2.out.mono e2.size)
        have hbr3 := e3.trans (HB5.out.mono e3.size)
        clear e1 e2 e3
        go_wp2
        go_roundw
        case rel => exact ⟨j + 1, by omega, by go_num, hid (HBr.out.trans (hbr3.mono (by omega)))⟩
        case measure => simp [intOf]; omega
    · have ha4 := H4T.out HFB.out.symm
      have hqn : q ≠ [] := by have h := pub_cap HR.out j (by simpa using hlt) (by rw [el_val hlt, ← EX0.out]; exact HFB.out.symm); rw [el_val hlt, ← EX0.out] at h; exact h
      have hq2 : 0 < q.length := List.length_pos_iff.2 hqn
      have hc2 : ¬ qc2 = 1 := by have := HQL.out; omega
      have hc3 : ((1 : Nat) : Int) ≤ (Q.length : Int) := by omega
      have hQ1 : Q = el Q 0 :: q1 := by rw [HQE.out, ha4]; cases q with | nil => exact absurd rfl hqn | cons a r => simp [el]
      have HQ1 := hid hQ1
      have HL1 : Hid (Q.length - 1 = q1.length) := hid (by rw [hQ1]; simp)
      clear hQ1 hqn ha4
      have hq1l : q1.length ≤ 21 := by have h1 := HL1.out; have h2 := HQL.out; omega
      obtain ⟨b1x, off1x, e, hb1x, hc1x, hi1x⟩ := TI.at F300.out (show j < u1.length by have := HUL.out; omega) EX1.out.symm
      cases e
      have hq5 := hc1x.2.2.2.2
      clear hc1x
      have a0 := XA300.out.c 0 rfl
      have af0 := XA300.out.f 0 rfl
      have a1 := XA300.out.c 1 rfl
      have af1 := XA300.out.f 1 rfl
      have az := XA300.out.size
      have x0 := XX300.out.c 0 rfl
      have xf0 := XX300.out.f 0 rfl
      have x1 := XX300.out.c 1 rfl
      have xf1 := XX300.out.f 1 rfl
      have xz := XX300.out.size
      have s0 := XS300.out.c 0 rfl
      have sf0 := XS300.out.f 0 rfl
      have s1 := XS300.out.c 1 rfl
      have sf1 := XS300.out.f 1 rfl
      have s2 := XS300.out.c 2 rfl
      have sf2 := XS300.out.f 2 rfl
      have s3 := XS300.out.c 3 rfl
      have sf3 := XS300.out.f 3 rfl
      have s4 := XS300.out.c 4 rfl
      have sf4 := XS300.out.f 4 rfl
      have sz := XS300.out.size
      go_wp2_with fail
      clear a0 af0 a1 af1 az x0 xf0 x1 xf1 xz s0 sf0 s1 sf1 s2 sf2 s3 sf3 s4 sf4 sz
      rw [HL1.out]
      clear hq5
      refine (sameInts_same (some ⟨gq, 1, none⟩) qo1 (qc2 - 1) qc1 q1 w92 (by omega) (in_tailQ (z := el Q 0) (by rw [← HQ1.out]; exact M300.out.in)) hi1x).mono ?_
      clear hi1x
      rintro e w301 ⟨rfl, hb301⟩
      have HC2 := hid hb301
      have hB301 := hB300.trans (hb301.mono hB300.size)
      have hs301 : w.heap.size ≤ w301.heap.size := Nat.le_trans hs300 hb301.size
      have hz301 : w92.heap.size ≤ w301.heap.size := hb301.size
      have XA301 := hid (XA300.out.later hb301)
      have XX301 := hid (XX300.out.later hb301)
      have XS301 := hid (XS300.out.later hb301)
      have D301 := hid (D300.out.later hb301)
      have F301 := hid (F300.out.later hb301)
      have U301 := hid (U300.out.later hb301)
      have M301 := hid (M300.out.later hb301)
      clear XA300 XX300 XS300 D300 F300 U300 M300
      clear hb301
      have G301 := hid (TZ.of_in (a := w301.heap.size) F301.out (Nat.le_refl _))
      have a0 := XA301.out.c 0 rfl
      have af0 := XA301.out.f 0 rfl
      have a1 := XA301.out.c 1 rfl
      have af1 := XA301.out.f 1 rfl
      have az := XA301.out.size
      have x0 := XX301.out.c 0 rfl
      have xf0 := XX301.out.f 0 rfl
      have x1 := XX301.out.c 1 rfl
      have xf1 := XX301.out.f 1 rfl
      have xz := XX301.out.size
      have s0 := XS301.out.c 0 rfl
      have sf0 := XS301.out.f 0 rfl
      have s1 := XS301.out.c 1 rfl
      have sf1 := XS301.out.f 1 rfl
      have s2 := XS301.out.c 2 rfl
      have sf2 := XS301.out.f 2 rfl
      have s3 := XS301.out.c 3 rfl
      have sf3 := XS301.out.f 3 rfl
      have s4 := XS301.out.c 4 rfl
      have sf4 := XS301.out.f 4 rfl
      have sz := XS301.out.size
      obtain ⟨w302, hV⟩ : ∃ V, V = w301.alloc (.cells #[.int .i64 S, .slice (some ⟨b1, off1, none⟩) u1.length c1] 25) := ⟨_, rfl⟩
      have hz302 : w301.heap.size ≤ w302.heap.size := by rw [hV]; simp
      have hs302 : w.heap.size ≤ w302.heap.size := Nat.le_trans hs301 hz302
      have hB302 : Below w.heap.size w w302 := by rw [hV]; exact Below.allocS hB301 _
      have XA302 := hid (XA301.out.alloc (.cells #[.int .i64 S, .slice (some ⟨b1, off1, none⟩) u1.length c1] 25))
      rw [← hV] at XA302
      have XX302 := hid (XX301.out.alloc (.cells #[.int .i64 S, .slice (some ⟨b1, off1, none⟩) u1.length c1] 25))
      rw [← hV] at XX302
      have XS302 := hid (XS301.out.alloc (.cells #[.int .i64 S, .slice (some ⟨b1, off1, none⟩) u1.length c1] 25))
      rw [← hV] at XS302
      have D302 := hid (D301.out.later (below1 w301 (.cells #[.int .i64 S, .slice (some ⟨b1, off1, none⟩) u1.length c1] 25)))
      rw [← hV] at D302
      have F302 := hid (F301.out.later (below1 w301 (.cells #[.int .i64 S, .slice (some ⟨b1, off1, none⟩) u1.length c1] 25)))
      rw [← hV] at F302
      have U302 := hid (U301.out.later (below1 w301 (.cells #[.int .i64 S, .slice (some ⟨b1, off1, none⟩) u1.length c1] 25)))
      rw [← hV] at U302
      have M302 := hid (M301.out.later (below1 w301 (.cells #[.int .i64 S, .slice (some ⟨b1, off1, none⟩) u1.length c1] 25)))
      rw [← hV] at M302
      have G302 := hid (G301.out.later (below1 w301 (.cells #[.int .i64 S, .slice (some ⟨b1, off1, none⟩) u1.length c1] 25)))
      rw [← hV] at G302
      have H302 : Hid (w302 = w301.alloc (.cells #[.int .i64 S, .slice (some ⟨b1, off1, none⟩) u1.length c1] 25)) := hV
      clear hV XA301 XX301 XS301 D301 F301 U301 M301 G301
      have XT302 : Hid (Bx w302 w301.heap.size [.int .i64 S, .slice (some ⟨b1, off1, none⟩) u1.length c1]) := by rw [H302.out]; exact Bx.new [.int .i64 S, .slice (some ⟨b1, off1, none⟩) u1.length c1] _ rfl
      have hy302 : w301.heap.size < w302.heap.size := XT302.out.size
      go_upto_region 24 with fail
      clear a0 af0 a1 af1 az x0 xf0 x1 xf1 xz s0 sf0 s1 sf1 s2 sf2 s3 sf3 s4 sf4 sz
      rw [← H302.out]
      have a0 := XA302.out.c 0 rfl
      have af0 := XA302.out.f 0 rfl
      have a1 := XA302.out.c 1 rfl
      have af1 := XA302.out.f 1 rfl
      have az := XA302.out.size
      have x0 := XX302.out.c 0 rfl
      have xf0 := XX302.out.f 0 rfl
      have x1 := XX302.out.c 1 rfl
      have xf1 := XX302.out.f 1 rfl
      have xz := XX302.out.size
      have s0 := XS302.out.c 0 rfl
      have sf0 := XS302.out.f 0 rfl
      have s1 := XS302.out.c 1 rfl
      have sf1 := XS302.out.f 1 rfl
      have s2 := XS302.out.c 2 rfl
      have sf2 := XS302.out.f 2 rfl
      have s3 := XS302.out.c 3 rfl
      have sf3 := XS302.out.f 3 rfl
      have s4 := XS302.out.c 4 rfl
      have sf4 := XS302.out.f 4 rfl
      have sz := XS302.out.size
      have t0 := XT302.out.c 0 rfl
      have tf0 := XT302.out.f 0 rfl
      have t1 := XT302.out.c 1 rfl
      have tf1 := XT302.out.f 1 rfl
      have tz := XT302.out.size
      go_wp2
      clear a0 af0 a1 af1 az x0 xf0 x1 xf1 xz s0 sf0 s1 sf1 s2 sf2 s3 sf3 s4 sf4 sz t0 tf0 t1 tf1 tz
      have HST : Hid (u1.map valSub = P.set j ((nd, kap1, dr1, dp1, q1) : PSub) ∧ topicB S (P.set j ((nd, kap1, dr1, dp1, q1) : PSub)) = true) := by have e : P.set j ((nd, kap1, dr1, dp1, q1) : PSub) = P := (by rw [← HP1.out]; exact set_el (by have := HPL.out; omega)); rw [Hid, e]; exact ⟨HU.out, HG.out⟩
      go_loopw [111] (fun i w5 => ∃ (i2 : Nat) (o5 : Option Addr) (c5 : Nat) (u5 : List LSub), i = .int .i64 (i2 : Int) ∧ i2 ≤ q1.length ∧ Hid (u5.map valSub = P.set j ((nd, kap1, dr1, dp1, q1.drop i2) : PSub) ∧ topicB S (P.set j ((nd, kap1, dr1, dp1, q1.drop i2) : PSub)) = true) ∧ Hid (Bx w5 w301.heap.size [.int .i64 S, .slice o5 u5.length c5]) ∧ Hid (TZ w301.heap.size w5 o5 u5) ∧ Hid (kI.RW w201.heap.size w92.heap.size w5 (some ⟨gq, 0, none⟩) qc2 Q) ∧ Hid (Bx w5 wq.heap.size [.int .i64 nd, .int .i64 kap, .bool dr, .int .i64 dp, .slice qo q.length qc]) ∧ Hid (Below w301.heap.size w301 w5) ∧ w302.heap.size ≤ w5.heap.size) (fun i _ => q1.length - (intOf i).toNat)
      case atStart => exact ⟨0, _, c1, u1, rfl, Nat.zero_le _, by simpa using HST, XT302, G302, M302, XS302, hid (by rw [H302.out]; exact below1 _ _), Nat.le_refl _⟩
      case round =>
        clear HST XT302 G302 XS302 M302
        rename World => w5
        obtain ⟨i2, o5, c5, u5, rfl, hi2, HS5, XT400, G400, M400, XS400, HB5, hsz5⟩ := hrel
        have hB400 := hB301.trans (HB5.out.mono hB301.size)
        have hs400 : w.heap.size ≤ w5.heap.size := hB400.size
        have hu5 : u5.length ≤ 10 := by have h := (good_neat HS5.out.2).1; rw [← HS5.out.1, List.length_map] at h; exact h
        have HF5 := hid (fits_map HS5.out.1 (good_neat HS5.out.2))
        by_cases hlt5 : i2 < q1.length
        case pos =>
          obtain ⟨bb, ff, e, hbb, hcc⟩ := ints_at (in_tailQ (z := el Q 0) (by rw [← HQ1.out]; exact M400.out.in)) hlt5
          cases e
          obtain ⟨v5, hv5⟩ : ∃ v, v = el q1 i2 := ⟨_, rfl⟩
          have hw5 := hcc i2 hlt5
          rw [← hv5] at hw5
          clear hcc
          obtain ⟨hh1, hh2⟩ := hear_set (show j < P.length by have := HPL.out; omega) hlt5 HS5.out.2
          rw [← hv5, ← HS5.out.1] at hh1
          have HH1 := hid hh1
          have HH2 := hid hh2
          clear hh1 hh2 hv5
          have hlt5I : (i2 : Int) < (q1.length : Int) := by omega
          have hvv : (v5 != v5) = false := by simp
          have t0 := XT400.out.c 0 rfl
          have tf0 := XT400.out.f 0 rfl
          have t1 := XT400.out.c 1 rfl
          have tf1 := XT400.out.f 1 rfl
          have tz := XT400.out.size
          have s0 := XS400.out.c 0 rfl
          have sf0 := XS400.out.f 0 rfl
          have s1 := XS400.out.c 1 rfl
          have sf1 := XS400.out.f 1 rfl
          have s2 := XS400.out.c 2 rfl
          have sf2 := XS400.out.f 2 rfl
          have s3 := XS400.out.c 3 rfl
          have sf3 := XS400.out.f 3 rfl
          have s4 := XS400.out.c 4 rfl
          have sf4 := XS400.out.f 4 rfl
          have sz := XS400.out.size
          go_wp2_with fail
          clear t0 tf0 t1 tf1 tz s0 sf0 s1 sf1 s2 sf2 s3 sf3 s4 sf4 sz
          refine (implHear_as S o5 c5 u5 nd S (P.set j ((nd, kap1, dr1, dp1, q1.drop (i2 + 1)) : PSub)) v5 0 w5 (by omega) HF5.out G400.out.in HH1.out).mono ?_
          rintro e w401 ⟨⟨o6, c6, u6, rfl, hu6, hF6⟩, hb401⟩
          have hbm4 := hb401
          have hB401 := hB400.trans (hb401.mono hB400.size)
          have hs401 : w.heap.size ≤ w401.heap.size := Nat.le_trans hs400 hb401.size
          have hz401 : w5.heap.size ≤ w401.heap.size := hb401.size
          have XT401 := hid (XT400.out.later hb401)
          have XS401 := hid (XS400.out.later hb401)
          have G401 := hid (G400.out.later hb401)
          have M401 := hid (M400.out.later hb401)
          clear XT400 XS400 G400 M400
          clear hb401
          clear hw5
          have N401 := hid (TZ.of_fr (a := w301.heap.size) hF6 (by omega))
          have HU6 := hid hu6
          clear hF6 hu6 G401
          have t0 := XT401.out.c 0 rfl
          have tf0 := XT401.out.f 0 rfl
          have t1 := XT401.out.c 1 rfl
          have tf1 := XT401.out.f 1 rfl
          have tz := XT401.out.size
          have s0 := XS401.out.c 0 rfl
          have sf0 := XS401.out.f 0 rfl
          have s1 := XS401.out.c 1 rfl
          have sf1 := XS401.out.f 1 rfl
          have s2 := XS401.out.c 2 rfl
          have sf2 := XS401.out.f 2 rfl
          have s3 := XS401.out.c 3 rfl
          have sf3 := XS401.out.f 3 rfl
          have s4 := XS401.out.c 4 rfl
          have sf4 := XS401.out.f 4 rfl
          have sz := XS401.out.size
          obtain ⟨w402, hV⟩ : ∃ V, V = w401.alloc (.cells #[.int .i64 S, .slice o6 u6.length c6] 25) := ⟨_, rfl⟩
          have hz402 : w401.heap.size ≤ w402.heap.size := by rw [hV]; simp
          have hs402 : w.heap.size ≤ w402.heap.size := Nat.le_trans hs401 hz402
          have hB402 : Below w.heap.size w w402 := by rw [hV]; exact Below.allocS hB401 _
          have XT402 := hid (XT401.out.alloc (.cells #[.int .i64 S, .slice o6 u6.length c6] 25))
          rw [← hV] at XT402
          have XS402 := hid (XS401.out.alloc (.cells #[.int .i64 S, .slice o6 u6.length c6] 25))
          rw [← hV] at XS402
          have M402 := hid (M401.out.later (below1 w401 (.cells #[.int .i64 S, .slice o6 u6.length c6] 25)))
          rw [← hV] at M402
          have N402 := hid (N401.out.later (below1 w401 (.cells #[.int .i64 S, .slice o6 u6.length c6] 25)))
          rw [← hV] at N402
          have H402 : Hid (w402 = w401.alloc (.cells #[.int .i64 S, .slice o6 u6.length c6] 25)) := hV
          clear hV XT401 XS401 M401 N401
          have XQ402 : Hid (Bx w402 w401.heap.size [.int .i64 S, .slice o6 u6.length c6]) := by rw [H402.out]; exact Bx.new [.int .i64 S, .slice o6 u6.length c6] _ rfl
          have hy402 : w401.heap.size < w402.heap.size := XQ402.out.size
          go_upto_region 30 with fail
          clear t0 tf0 t1 tf1 tz s0 sf0 s1 sf1 s2 sf2 s3 sf3 s4 sf4 sz
          rw [← H402.out]
          have hbm5 : Below w5.heap.size w5 w402 := by rw [H402.out]; exact Below.allocS hbm4 _
          clear hbm4
          have t0 := XT402.out.c 0 rfl
          have tf0 := XT402.out.f 0 rfl
          have t1 := XT402.out.c 1 rfl
          have tf1 := XT402.out.f 1 rfl
          have tz := XT402.out.size
          have s0 := XS402.out.c 0 rfl
          have sf0 := XS402.out.f 0 rfl
          have s1 := XS402.out.c 1 rfl
          have sf1 := XS402.out.f 1 rfl
          have s2 := XS402.out.c 2 rfl
          have sf2 := XS402.out.f 2 rfl
          have s3 := XS402.out.c 3 rfl
          have sf3 := XS402.out.f 3 rfl
          have s4 := XS402.out.c 4 rfl
          have sf4 := XS402.out.f 4 rfl
          have sz := XS402.out.size
          have q0 := XQ402.out.c 0 rfl
          have qf0 := XQ402.out.f 0 rfl
          have q1 := XQ402.out.c 1 rfl
          have qf1 := XQ402.out.f 1 rfl
          have qz := XQ402.out.size
          obtain ⟨w403, hV⟩ : ∃ V, V = ((w402.setCell ⟨w301.heap.size, 0, none⟩ (.int .i64 S)).setCell ⟨w301.heap.size, 1, none⟩ (.slice o6 u6.length c6)) := ⟨_, rfl⟩
          have XT403 : Hid (Bx w403 w301.heap.size [.int .i64 S, .slice o6 u6.length c6]) := by rw [hV]; exact hid ((XT402.out.set 0 (.int .i64 S)).set 1 (.slice o6 u6.length c6))
          have XS403 : Hid (Bx w403 wq.heap.size [.int .i64 nd, .int .i64 kap, .bool dr, .int .i64 dp, .slice qo q.length qc]) := by rw [hV]; exact hid ((XS402.out.other (a := ⟨w301.heap.size, 0, none⟩) (by dsimp only; omega) (.int .i64 S)).other (a := ⟨w301.heap.size, 1, none⟩) (by dsimp only; omega) (.slice o6 u6.length c6))
          have M403 := hid ((M402.out.setOff (a := ⟨w301.heap.size, 0, none⟩) (by dsimp only; omega) (.int .i64 S)).setOff (a := ⟨w301.heap.size, 1, none⟩) (by dsimp only; omega) (.slice o6 u6.length c6))
          rw [← hV] at M403
          have N403 := hid ((N402.out.set 0 (.int .i64 S)).set 1 (.slice o6 u6.length c6))
          rw [← hV] at N403
          have hBm : Below w301.heap.size w301 w403 := by rw [hV]; exact ((HB5.out.trans (hbm5.mono (by omega))).setCell (p := ⟨w301.heap.size, 0, none⟩) (by simp) _).setCell (p := ⟨w301.heap.size, 1, none⟩) (by simp) _
          have hzm : w5.heap.size ≤ w403.heap.size := by rw [hV]; simp; omega
          have HVm := hid hV
          clear hV
          go_wp2
          clear t0 tf0 t1 tf1 tz s0 sf0 s1 sf1 s2 sf2 s3 sf3 s4 sf4 sz q0 qf0 q1 qf1 qz
          rw [← HVm.out]
          go_roundw
          case rel => exact ⟨i2 + 1, o6, c6, u6, by go_num, by omega, hid ⟨HU6.out, HH2.out⟩, XT403, N403, M403, XS403, hid hBm, by omega⟩
          case measure => simp [intOf]; omega
        obtain rfl : i2 = q1.length := by omega
        have e1 : Below wq.heap.size wq w201 := by rw [H201.out]; exact below1 _ _
        have e2 := e1.trans (HC1.out.mono e1.size)
        have e3 := e2.trans (HC2.out.mono e2.size)
        have hbr3 := e3.trans (HB5.out.mono e3.size)
        clear e1 e2 e3
        go_wp2
        go_roundw
        case rel => exact ⟨j + 1, by omega, by go_num, hid (HBr.out.trans (hbr3.mono (by omega)))⟩
        case measure => simp [intOf]; omega
end Go.Proofs.Ytimkadnnhfllnaa
