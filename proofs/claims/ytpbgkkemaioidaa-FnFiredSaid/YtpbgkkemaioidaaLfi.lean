
/- The law of what fires: it returns true. No conditions but those written. -/
import Derived.Test.YtpbgkkemaioidaaXn
import Derived.Deep.Cut
import Derived.Deep.DeepCutAuto
namespace Go.Proofs.Ytpbgkkemaioidaa
open Go.RowKit

set_option maxRecDepth 100000 in
set_option maxHeartbeats 16000000 in
theorem lawFired (co : Option Addr) (cap : Nat) (bs : List Int) (mo : Option Addr) (mcap : Nat) (ms : List Int) (w : World) (hl : bs.length ≤ 9223372036854775807) (hb : BytesIn w.heap.size w co bs) (hml : ms.length ≤ 9223372036854775807) (hm : BytesIn w.heap.size w mo ms) :
    Calls Try.prog 3 #[.slice co bs.length cap, .slice mo ms.length mcap] w fun e w' => e = .returned (.bool true) ∧ Below w.heap.size w w' := by
  by_cases hbig : 1048576 < wrap64 ((bs.length : Int) + (ms.length : Int))
  · go_enter Try.func3, Try.ntmps3
    go_wp2
    go_ret
    exact ⟨rfl, Below.refl _ _⟩
  have hB0 : Below w.heap.size w w := Below.refl _ _
  have hs0 : w.heap.size ≤ w.heap.size := Nat.le_refl _
  go_enter Try.func3, Try.ntmps3
  go_wp2_with fail
  refine (drawAdv_any co cap bs w hl hb).mono ?_
  rintro e w1 ⟨⟨now, sq, ta, tc, ts, t, rfl, hlq, hD⟩, hb1⟩
  have hB1 := hB0.trans (hb1.mono hB0.size)
  have hs1 : w.heap.size ≤ w1.heap.size := Nat.le_trans hs0 hb1.size
  have hz1 : w.heap.size ≤ w1.heap.size := hb1.size
  have D1 := hid (hD)
  clear hb1 hD
  obtain ⟨hnow, ht64, hl31⟩ := hlq
  obtain ⟨N, S, L, l, cd, hR⟩ : ∃ N S L l cd, Old.advR now sq ts t = (N, S, L, l, cd) := ⟨_, _, _, _, _, rfl⟩
  have hsh := adv_short (now := now) (sq := sq) (t := t) hl31
  rw [hR] at hsh
  dsimp only at hsh
  obtain ⟨hL31, hll31⟩ := hsh
  have HR := hid hR
  clear hR
  obtain ⟨w2, hV⟩ : ∃ V, V = w1.alloc (.cells #[.int .i64 now, .int .i64 sq, .slice ta ts.length tc] 25) := ⟨_, rfl⟩
  have hz2 : w1.heap.size ≤ w2.heap.size := by rw [hV]; simp
  have hs2 : w.heap.size ≤ w2.heap.size := Nat.le_trans hs1 hz2
  have hB2 : Below w.heap.size w w2 := by rw [hV]; exact Below.allocS hB1 _
  have D2 := hid (D1.out.later (below1 w1 (.cells #[.int .i64 now, .int .i64 sq, .slice ta ts.length tc] 25)))
  rw [← hV] at D2
  have H2 : Hid (w2 = w1.alloc (.cells #[.int .i64 now, .int .i64 sq, .slice ta ts.length tc] 25)) := hV
  clear hV D1
  have XA2 : Hid (Bx w2 w1.heap.size [.int .i64 now, .int .i64 sq, .slice ta ts.length tc]) := by rw [H2.out]; exact Bx.new [.int .i64 now, .int .i64 sq, .slice ta ts.length tc] _ rfl
  have hy2 : w1.heap.size < w2.heap.size := XA2.out.size
  go_wp2_with fail
  rw [← H2.out]
  refine (implAdv_as now sq ta tc ts t N S L l cd w2 (by omega) D2.out.cap D2.out.in HR.out).mono ?_
  rintro e w3 ⟨⟨o1, c1, o2, c2, rfl, hc1, hF1, hF2⟩, hb3⟩
  have hB3 := hB2.trans (hb3.mono hB2.size)
  have hs3 : w.heap.size ≤ w3.heap.size := Nat.le_trans hs2 hb3.size
  have hz3 : w2.heap.size ≤ w3.heap.size := hb3.size
  have XA3 := hid (XA2.out.later hb3)
  have D3 := hid (D2.out.later hb3)
  clear XA2 D2
  have F3 := hid (hF1)
  have U3 := hid (hF2)
  clear hb3 hF1 hF2
  have a0 := XA3.out.c 0 rfl
  have af0 := XA3.out.f 0 rfl
  have a1 := XA3.out.c 1 rfl
  have af1 := XA3.out.f 1 rfl
  have a2 := XA3.out.c 2 rfl
  have af2 := XA3.out.f 2 rfl
  have az := XA3.out.size
  obtain ⟨w4, hV⟩ : ∃ V, V = w3.alloc (.cells #[.int .i64 N, .int .i64 S, .slice o1 L.length c1] 25) := ⟨_, rfl⟩
  have hz4 : w3.heap.size ≤ w4.heap.size := by rw [hV]; simp
  have hs4 : w.heap.size ≤ w4.heap.size := Nat.le_trans hs3 hz4
  have hB4 : Below w.heap.size w w4 := by rw [hV]; exact Below.allocS hB3 _
  have XA4 := hid (XA3.out.alloc (.cells #[.int .i64 N, .int .i64 S, .slice o1 L.length c1] 25))
  rw [← hV] at XA4
  have D4 := hid (D3.out.later (below1 w3 (.cells #[.int .i64 N, .int .i64 S, .slice o1 L.length c1] 25)))
  rw [← hV] at D4
  have F4 := hid (F3.out.later (below1 w3 (.cells #[.int .i64 N, .int .i64 S, .slice o1 L.length c1] 25)))
  rw [← hV] at F4
  have U4 := hid (U3.out.later (below1 w3 (.cells #[.int .i64 N, .int .i64 S, .slice o1 L.length c1] 25)))
  rw [← hV] at U4
  have H4 : Hid (w4 = w3.alloc (.cells #[.int .i64 N, .int .i64 S, .slice o1 L.length c1] 25)) := hV
  clear hV XA3 D3 F3 U3
  have XX4 : Hid (Bx w4 w3.heap.size [.int .i64 N, .int .i64 S, .slice o1 L.length c1]) := by rw [H4.out]; exact Bx.new [.int .i64 N, .int .i64 S, .slice o1 L.length c1] _ rfl
  have hy4 : w3.heap.size < w4.heap.size := XX4.out.size
  go_wp2_with fail
  clear a0 af0 a1 af1 a2 af2 az
  rw [← H4.out]
  refine (specAdv_as now sq ta tc ts t N S L l cd w4 (by omega) D4.out.cap D4.out.in D4.out.no HR.out).mono ?_
  rintro e w5 ⟨⟨o3, c3, o4, c4, rfl, _, hF1, hF2⟩, hb5⟩
  have hB5 := hB4.trans (hb5.mono hB4.size)
  have hs5 : w.heap.size ≤ w5.heap.size := Nat.le_trans hs4 hb5.size
  have hz5 : w4.heap.size ≤ w5.heap.size := hb5.size
  have XA5 := hid (XA4.out.later hb5)
  have XX5 := hid (XX4.out.later hb5)
  have D5 := hid (D4.out.later hb5)
  have F5 := hid (F4.out.later hb5)
  have U5 := hid (U4.out.later hb5)
  clear XA4 XX4 D4 F4 U4
  have V5 := hid (hF2)
  clear hb5 hF1 hF2
  have a0 := XA5.out.c 0 rfl
  have af0 := XA5.out.f 0 rfl
  have a1 := XA5.out.c 1 rfl
  have af1 := XA5.out.f 1 rfl
  have a2 := XA5.out.c 2 rfl
  have af2 := XA5.out.f 2 rfl
  have az := XA5.out.size
  have x0 := XX5.out.c 0 rfl
  have xf0 := XX5.out.f 0 rfl
  have x1 := XX5.out.c 1 rfl
  have xf1 := XX5.out.f 1 rfl
  have x2 := XX5.out.c 2 rfl
  have xf2 := XX5.out.f 2 rfl
  have xz := XX5.out.size
  obtain ⟨w6, hV⟩ : ∃ V, V = w5.alloc (.cells #[.int .i64 N, .int .i64 S, .slice o3 L.length c3] 25) := ⟨_, rfl⟩
  have hz6 : w5.heap.size ≤ w6.heap.size := by rw [hV]; simp
  have hs6 : w.heap.size ≤ w6.heap.size := Nat.le_trans hs5 hz6
  have hB6 : Below w.heap.size w w6 := by rw [hV]; exact Below.allocS hB5 _
  have XA6 := hid (XA5.out.alloc (.cells #[.int .i64 N, .int .i64 S, .slice o3 L.length c3] 25))
  rw [← hV] at XA6
  have XX6 := hid (XX5.out.alloc (.cells #[.int .i64 N, .int .i64 S, .slice o3 L.length c3] 25))
  rw [← hV] at XX6
  have D6 := hid (D5.out.later (below1 w5 (.cells #[.int .i64 N, .int .i64 S, .slice o3 L.length c3] 25)))
  rw [← hV] at D6
  have F6 := hid (F5.out.later (below1 w5 (.cells #[.int .i64 N, .int .i64 S, .slice o3 L.length c3] 25)))
  rw [← hV] at F6
  have U6 := hid (U5.out.later (below1 w5 (.cells #[.int .i64 N, .int .i64 S, .slice o3 L.length c3] 25)))
  rw [← hV] at U6
  have V6 := hid (V5.out.later (below1 w5 (.cells #[.int .i64 N, .int .i64 S, .slice o3 L.length c3] 25)))
  rw [← hV] at V6
  have H6 : Hid (w6 = w5.alloc (.cells #[.int .i64 N, .int .i64 S, .slice o3 L.length c3] 25)) := hV
  clear hV XA5 XX5 D5 F5 U5 V5
  have XY6 : Hid (Bx w6 w5.heap.size [.int .i64 N, .int .i64 S, .slice o3 L.length c3]) := by rw [H6.out]; exact Bx.new [.int .i64 N, .int .i64 S, .slice o3 L.length c3] _ rfl
  have hy6 : w5.heap.size < w6.heap.size := XY6.out.size
  have hce : (cd != cd) = false := by simp
  go_wp2_with fail
  clear a0 af0 a1 af1 a2 af2 az x0 xf0 x1 xf1 x2 xf2 xz
  rw [← H6.out]
  refine (sameInts_same o2 o4 c2 c4 l w6 (by omega) U6.out V6.out).mono ?_
  rintro e w7 ⟨rfl, hb7⟩
  have hB7 := hB6.trans (hb7.mono hB6.size)
  have hs7 : w.heap.size ≤ w7.heap.size := Nat.le_trans hs6 hb7.size
  have hz7 : w6.heap.size ≤ w7.heap.size := hb7.size
  have XA7 := hid (XA6.out.later hb7)
  have XX7 := hid (XX6.out.later hb7)
  have XY7 := hid (XY6.out.later hb7)
  have D7 := hid (D6.out.later hb7)
  have F7 := hid (F6.out.later hb7)
  have U7 := hid (U6.out.later hb7)
  have V7 := hid (V6.out.later hb7)
  clear XA6 XX6 XY6 D6 F6 U6 V6
  clear hb7
  by_cases hc : cd = 0
  case neg =>
    have hc1 : (cd != 0) = true := by simpa using hc
    have a0 := XA7.out.c 0 rfl
    have af0 := XA7.out.f 0 rfl
    have a1 := XA7.out.c 1 rfl
    have af1 := XA7.out.f 1 rfl
    have a2 := XA7.out.c 2 rfl
    have af2 := XA7.out.f 2 rfl
    have az := XA7.out.size
    have x0 := XX7.out.c 0 rfl
    have xf0 := XX7.out.f 0 rfl
    have x1 := XX7.out.c 1 rfl
    have xf1 := XX7.out.f 1 rfl
    have x2 := XX7.out.c 2 rfl
    have xf2 := XX7.out.f 2 rfl
    have xz := XX7.out.size
    have y0 := XY7.out.c 0 rfl
    have yf0 := XY7.out.f 0 rfl
    have y1 := XY7.out.c 1 rfl
    have yf1 := XY7.out.f 1 rfl
    have y2 := XY7.out.c 2 rfl
    have yf2 := XY7.out.f 2 rfl
    have yz := XY7.out.size
    go_wp2
    go_ret
    exact ⟨rfl, hB7⟩
  subst hc
  clear hce
  obtain ⟨hgood, hnt, _⟩ := Old.adv_zero (now := now) (sq := sq) (ts := ts) (t := t) (by rw [HR.out])
  have hn0 : 0 ≤ now := (Old.good_parts hgood).1
  have ht1 : t ≤ 9223372036854775807 := ht64.2
  clear hgood
  by_cases hlt : t - now < 1000000
  · have hlt1 : decide (t - now < 1000000) = true := by simpa using hlt
    by_cases hgt : now < t
    · have hgt1 : decide (now < t) = true := by simpa using hgt
      have a0 := XA7.out.c 0 rfl
      have af0 := XA7.out.f 0 rfl
      have a1 := XA7.out.c 1 rfl
      have af1 := XA7.out.f 1 rfl
      have a2 := XA7.out.c 2 rfl
      have af2 := XA7.out.f 2 rfl
      have az := XA7.out.size
      have x0 := XX7.out.c 0 rfl
      have xf0 := XX7.out.f 0 rfl
      have x1 := XX7.out.c 1 rfl
      have xf1 := XX7.out.f 1 rfl
      have x2 := XX7.out.c 2 rfl
      have xf2 := XX7.out.f 2 rfl
      have xz := XX7.out.size
      have y0 := XY7.out.c 0 rfl
      have yf0 := XY7.out.f 0 rfl
      have y1 := XY7.out.c 1 rfl
      have yf1 := XY7.out.f 1 rfl
      have y2 := XY7.out.c 2 rfl
      have yf2 := XY7.out.f 2 rfl
      have yz := XY7.out.size
      go_upto_region 12 with fail
      clear a0 af0 a1 af1 a2 af2 az x0 xf0 x1 xf1 x2 xf2 xz y0 yf0 y1 yf1 y2 yf2 yz
      go_cut [13] (fun s13 wx => ∃ md : Int, s13 = .int .i64 md ∧ now ≤ md ∧ md ≤ t ∧ Below w7.heap.size w7 wx)
      case first =>
        have a0 := XA7.out.c 0 rfl
        have af0 := XA7.out.f 0 rfl
        have a1 := XA7.out.c 1 rfl
        have af1 := XA7.out.f 1 rfl
        have a2 := XA7.out.c 2 rfl
        have af2 := XA7.out.f 2 rfl
        have az := XA7.out.size
        have x0 := XX7.out.c 0 rfl
        have xf0 := XX7.out.f 0 rfl
        have x1 := XX7.out.c 1 rfl
        have xf1 := XX7.out.f 1 rfl
        have x2 := XX7.out.c 2 rfl
        have xf2 := XX7.out.f 2 rfl
        have xz := XX7.out.size
        have y0 := XY7.out.c 0 rfl
        have yf0 := XY7.out.f 0 rfl
        have y1 := XY7.out.c 1 rfl
        have yf1 := XY7.out.f 1 rfl
        have y2 := XY7.out.c 2 rfl
        have yf2 := XY7.out.f 2 rfl
        have yz := XY7.out.size
        go_quiet (exact Calls.quiet_of_same (numberOf_is mo mcap ms _ _ (below_draws hB7 _).size (hm.later (below_draws hB7 _) (Nat.le_refl _)) hml))
        go_wp2
        go_meet
        have hmi := mid_in hn0 hgt ht1 (numI_in ms).1
        exact ⟨_, rfl, hmi.1, hmi.2, below_draws (Below.refl _ _) _⟩
      case rest =>
        obtain ⟨md, rfl, hmd1, hmd2, hbc⟩ := hcut
        have hB8 := hB7.trans (hbc.mono hB7.size)
        have hs8 : w.heap.size ≤ wc.heap.size := Nat.le_trans hs7 hbc.size
        have hz8 : w7.heap.size ≤ wc.heap.size := hbc.size
        have XA8 := hid (XA7.out.later hbc)
        have XX8 := hid (XX7.out.later hbc)
        have XY8 := hid (XY7.out.later hbc)
        have D8 := hid (D7.out.later hbc)
        have F8 := hid (F7.out.later hbc)
        have U8 := hid (U7.out.later hbc)
        have V8 := hid (V7.out.later hbc)
        clear XA7 XX7 XY7 D7 F7 U7 V7
        clear hbc
        obtain ⟨L1, L2, l1, l2, hA1, hA2, happ, hlen, hL1l, rfl, rfl, hgd, hlate, _, _⟩ := Old.fired_all (mid := md) HR.out (hmd1) (hmd2)
        have hsh1 := adv_short (now := now) (sq := S) (t := md) hl31
        rw [hA1] at hsh1
        dsimp only at hsh1
        obtain ⟨hL131, hl131⟩ := hsh1
        have hl2 : l2.length ≤ 31 := by have := congrArg List.length happ; simp at this; omega
        have hne : ((L2.length : Int) != (L.length : Int)) = false := by simp; omega
        have HA1 := hid hA1
        have HA2 := hid hA2
        have HAP := hid happ
        have HLEN := hid hlen
        have HGD := hid hgd
        have HLATE := hid hlate
        clear hA1 hA2 happ hlen hgd hlate
        have a0 := XA8.out.c 0 rfl
        have af0 := XA8.out.f 0 rfl
        have a1 := XA8.out.c 1 rfl
        have af1 := XA8.out.f 1 rfl
        have a2 := XA8.out.c 2 rfl
        have af2 := XA8.out.f 2 rfl
        have az := XA8.out.size
        have x0 := XX8.out.c 0 rfl
        have xf0 := XX8.out.f 0 rfl
        have x1 := XX8.out.c 1 rfl
        have xf1 := XX8.out.f 1 rfl
        have x2 := XX8.out.c 2 rfl
        have xf2 := XX8.out.f 2 rfl
        have xz := XX8.out.size
        have y0 := XY8.out.c 0 rfl
        have yf0 := XY8.out.f 0 rfl
        have y1 := XY8.out.c 1 rfl
        have yf1 := XY8.out.f 1 rfl
        have y2 := XY8.out.c 2 rfl
        have yf2 := XY8.out.f 2 rfl
        have yz := XY8.out.size
        go_wp2_with fail
        clear a0 af0 a1 af1 a2 af2 az x0 xf0 x1 xf1 x2 xf2 xz y0 yf0 y1 yf1 y2 yf2 yz
        refine (implAdv_as now S ta tc ts (md) (md) S L1 l1 0 wc (by omega) D8.out.cap D8.out.in HA1.out).mono ?_
        rintro e w9 ⟨⟨o5, c5, o6, c6, rfl, hc5, hF1, hF2⟩, hb9⟩
        have hB9 := hB8.trans (hb9.mono hB8.size)
        have hs9 : w.heap.size ≤ w9.heap.size := Nat.le_trans hs8 hb9.size
        have hz9 : wc.heap.size ≤ w9.heap.size := hb9.size
        have XA9 := hid (XA8.out.later hb9)
        have XX9 := hid (XX8.out.later hb9)
        have XY9 := hid (XY8.out.later hb9)
        have D9 := hid (D8.out.later hb9)
        have F9 := hid (F8.out.later hb9)
        have U9 := hid (U8.out.later hb9)
        have V9 := hid (V8.out.later hb9)
        clear XA8 XX8 XY8 D8 F8 U8 V8
        have G9 := hid (hF1)
        have P9 := hid (hF2)
        clear hb9 hF1 hF2
        have a0 := XA9.out.c 0 rfl
        have af0 := XA9.out.f 0 rfl
        have a1 := XA9.out.c 1 rfl
        have af1 := XA9.out.f 1 rfl
        have a2 := XA9.out.c 2 rfl
        have af2 := XA9.out.f 2 rfl
        have az := XA9.out.size
        have x0 := XX9.out.c 0 rfl
        have xf0 := XX9.out.f 0 rfl
        have x1 := XX9.out.c 1 rfl
        have xf1 := XX9.out.f 1 rfl
        have x2 := XX9.out.c 2 rfl
        have xf2 := XX9.out.f 2 rfl
        have xz := XX9.out.size
        have y0 := XY9.out.c 0 rfl
        have yf0 := XY9.out.f 0 rfl
        have y1 := XY9.out.c 1 rfl
        have yf1 := XY9.out.f 1 rfl
        have y2 := XY9.out.c 2 rfl
        have yf2 := XY9.out.f 2 rfl
        have yz := XY9.out.size
        obtain ⟨w10, hV⟩ : ∃ V, V = w9.alloc (.cells #[.int .i64 md, .int .i64 S, .slice o5 L1.length c5] 25) := ⟨_, rfl⟩
        have hz10 : w9.heap.size ≤ w10.heap.size := by rw [hV]; simp
        have hs10 : w.heap.size ≤ w10.heap.size := Nat.le_trans hs9 hz10
        have hB10 : Below w.heap.size w w10 := by rw [hV]; exact Below.allocS hB9 _
        have XA10 := hid (XA9.out.alloc (.cells #[.int .i64 md, .int .i64 S, .slice o5 L1.length c5] 25))
        rw [← hV] at XA10
        have XX10 := hid (XX9.out.alloc (.cells #[.int .i64 md, .int .i64 S, .slice o5 L1.length c5] 25))
        rw [← hV] at XX10
        have XY10 := hid (XY9.out.alloc (.cells #[.int .i64 md, .int .i64 S, .slice o5 L1.length c5] 25))
        rw [← hV] at XY10
        have D10 := hid (D9.out.later (below1 w9 (.cells #[.int .i64 md, .int .i64 S, .slice o5 L1.length c5] 25)))
        rw [← hV] at D10
        have F10 := hid (F9.out.later (below1 w9 (.cells #[.int .i64 md, .int .i64 S, .slice o5 L1.length c5] 25)))
        rw [← hV] at F10
        have U10 := hid (U9.out.later (below1 w9 (.cells #[.int .i64 md, .int .i64 S, .slice o5 L1.length c5] 25)))
        rw [← hV] at U10
        have V10 := hid (V9.out.later (below1 w9 (.cells #[.int .i64 md, .int .i64 S, .slice o5 L1.length c5] 25)))
        rw [← hV] at V10
        have G10 := hid (G9.out.later (below1 w9 (.cells #[.int .i64 md, .int .i64 S, .slice o5 L1.length c5] 25)))
        rw [← hV] at G10
        have P10 := hid (P9.out.later (below1 w9 (.cells #[.int .i64 md, .int .i64 S, .slice o5 L1.length c5] 25)))
        rw [← hV] at P10
        have H10 : Hid (w10 = w9.alloc (.cells #[.int .i64 md, .int .i64 S, .slice o5 L1.length c5] 25)) := hV
        clear hV XA9 XX9 XY9 D9 F9 U9 V9 G9 P9
        have XM10 : Hid (Bx w10 w9.heap.size [.int .i64 md, .int .i64 S, .slice o5 L1.length c5]) := by rw [H10.out]; exact Bx.new [.int .i64 md, .int .i64 S, .slice o5 L1.length c5] _ rfl
        have hy10 : w9.heap.size < w10.heap.size := XM10.out.size
        go_wp2_with fail
        clear a0 af0 a1 af1 a2 af2 az x0 xf0 x1 xf1 x2 xf2 xz y0 yf0 y1 yf1 y2 yf2 yz
        rw [← H10.out]
        refine (implAdv_as (md) S o5 c5 L1 N N S L2 l2 0 w10 (by omega) hc5 G10.out HA2.out).mono ?_
        rintro e w11 ⟨⟨o7, c7, o8, c8, rfl, hc7, hF1, hF2⟩, hb11⟩
        have hB11 := hB10.trans (hb11.mono hB10.size)
        have hs11 : w.heap.size ≤ w11.heap.size := Nat.le_trans hs10 hb11.size
        have hz11 : w10.heap.size ≤ w11.heap.size := hb11.size
        have XA11 := hid (XA10.out.later hb11)
        have XX11 := hid (XX10.out.later hb11)
        have XY11 := hid (XY10.out.later hb11)
        have XM11 := hid (XM10.out.later hb11)
        have D11 := hid (D10.out.later hb11)
        have F11 := hid (F10.out.later hb11)
        have U11 := hid (U10.out.later hb11)
        have V11 := hid (V10.out.later hb11)
        have G11 := hid (G10.out.later hb11)
        have P11 := hid (P10.out.later hb11)
        clear XA10 XX10 XY10 XM10 D10 F10 U10 V10 G10 P10
        have J11 := hid (hF1)
        have Q11 := hid (hF2)
        clear hb11 hF1 hF2
        have a0 := XA11.out.c 0 rfl
        have af0 := XA11.out.f 0 rfl
        have a1 := XA11.out.c 1 rfl
        have af1 := XA11.out.f 1 rfl
        have a2 := XA11.out.c 2 rfl
        have af2 := XA11.out.f 2 rfl
        have az := XA11.out.size
        have x0 := XX11.out.c 0 rfl
        have xf0 := XX11.out.f 0 rfl
        have x1 := XX11.out.c 1 rfl
        have xf1 := XX11.out.f 1 rfl
        have x2 := XX11.out.c 2 rfl
        have xf2 := XX11.out.f 2 rfl
        have xz := XX11.out.size
        have y0 := XY11.out.c 0 rfl
        have yf0 := XY11.out.f 0 rfl
        have y1 := XY11.out.c 1 rfl
        have yf1 := XY11.out.f 1 rfl
        have y2 := XY11.out.c 2 rfl
        have yf2 := XY11.out.f 2 rfl
        have yz := XY11.out.size
        have m0 := XM11.out.c 0 rfl
        have mf0 := XM11.out.f 0 rfl
        have m1 := XM11.out.c 1 rfl
        have mf1 := XM11.out.f 1 rfl
        have m2 := XM11.out.c 2 rfl
        have mf2 := XM11.out.f 2 rfl
        have mz := XM11.out.size
        obtain ⟨w12, hV⟩ : ∃ V, V = w11.alloc (.cells #[.int .i64 N, .int .i64 S, .slice o7 L2.length c7] 25) := ⟨_, rfl⟩
        have hz12 : w11.heap.size ≤ w12.heap.size := by rw [hV]; simp
        have hs12 : w.heap.size ≤ w12.heap.size := Nat.le_trans hs11 hz12
        have hB12 : Below w.heap.size w w12 := by rw [hV]; exact Below.allocS hB11 _
        have XA12 := hid (XA11.out.alloc (.cells #[.int .i64 N, .int .i64 S, .slice o7 L2.length c7] 25))
        rw [← hV] at XA12
        have XX12 := hid (XX11.out.alloc (.cells #[.int .i64 N, .int .i64 S, .slice o7 L2.length c7] 25))
        rw [← hV] at XX12
        have XY12 := hid (XY11.out.alloc (.cells #[.int .i64 N, .int .i64 S, .slice o7 L2.length c7] 25))
        rw [← hV] at XY12
        have XM12 := hid (XM11.out.alloc (.cells #[.int .i64 N, .int .i64 S, .slice o7 L2.length c7] 25))
        rw [← hV] at XM12
        have D12 := hid (D11.out.later (below1 w11 (.cells #[.int .i64 N, .int .i64 S, .slice o7 L2.length c7] 25)))
        rw [← hV] at D12
        have F12 := hid (F11.out.later (below1 w11 (.cells #[.int .i64 N, .int .i64 S, .slice o7 L2.length c7] 25)))
        rw [← hV] at F12
        have U12 := hid (U11.out.later (below1 w11 (.cells #[.int .i64 N, .int .i64 S, .slice o7 L2.length c7] 25)))
        rw [← hV] at U12
        have V12 := hid (V11.out.later (below1 w11 (.cells #[.int .i64 N, .int .i64 S, .slice o7 L2.length c7] 25)))
        rw [← hV] at V12
        have G12 := hid (G11.out.later (below1 w11 (.cells #[.int .i64 N, .int .i64 S, .slice o7 L2.length c7] 25)))
        rw [← hV] at G12
        have P12 := hid (P11.out.later (below1 w11 (.cells #[.int .i64 N, .int .i64 S, .slice o7 L2.length c7] 25)))
        rw [← hV] at P12
        have J12 := hid (J11.out.later (below1 w11 (.cells #[.int .i64 N, .int .i64 S, .slice o7 L2.length c7] 25)))
        rw [← hV] at J12
        have Q12 := hid (Q11.out.later (below1 w11 (.cells #[.int .i64 N, .int .i64 S, .slice o7 L2.length c7] 25)))
        rw [← hV] at Q12
        have H12 : Hid (w12 = w11.alloc (.cells #[.int .i64 N, .int .i64 S, .slice o7 L2.length c7] 25)) := hV
        clear hV XA11 XX11 XY11 XM11 D11 F11 U11 V11 G11 P11 J11 Q11
        have XT12 : Hid (Bx w12 w11.heap.size [.int .i64 N, .int .i64 S, .slice o7 L2.length c7]) := by rw [H12.out]; exact Bx.new [.int .i64 N, .int .i64 S, .slice o7 L2.length c7] _ rfl
        have hy12 : w11.heap.size < w12.heap.size := XT12.out.size
        go_upto_region 15 with fail
        clear a0 af0 a1 af1 a2 af2 az x0 xf0 x1 xf1 x2 xf2 xz y0 yf0 y1 yf1 y2 yf2 yz m0 mf0 m1 mf1 m2 mf2 mz
        rw [← H12.out]
        have a0 := XA12.out.c 0 rfl
        have af0 := XA12.out.f 0 rfl
        have a1 := XA12.out.c 1 rfl
        have af1 := XA12.out.f 1 rfl
        have a2 := XA12.out.c 2 rfl
        have af2 := XA12.out.f 2 rfl
        have az := XA12.out.size
        have x0 := XX12.out.c 0 rfl
        have xf0 := XX12.out.f 0 rfl
        have x1 := XX12.out.c 1 rfl
        have xf1 := XX12.out.f 1 rfl
        have x2 := XX12.out.c 2 rfl
        have xf2 := XX12.out.f 2 rfl
        have xz := XX12.out.size
        have y0 := XY12.out.c 0 rfl
        have yf0 := XY12.out.f 0 rfl
        have y1 := XY12.out.c 1 rfl
        have yf1 := XY12.out.f 1 rfl
        have y2 := XY12.out.c 2 rfl
        have yf2 := XY12.out.f 2 rfl
        have yz := XY12.out.size
        have m0 := XM12.out.c 0 rfl
        have mf0 := XM12.out.f 0 rfl
        have m1 := XM12.out.c 1 rfl
        have mf1 := XM12.out.f 1 rfl
        have m2 := XM12.out.c 2 rfl
        have mf2 := XM12.out.f 2 rfl
        have mz := XM12.out.size
        have t0 := XT12.out.c 0 rfl
        have tf0 := XT12.out.f 0 rfl
        have t1 := XT12.out.c 1 rfl
        have tf1 := XT12.out.f 1 rfl
        have t2 := XT12.out.c 2 rfl
        have tf2 := XT12.out.f 2 rfl
        have tz := XT12.out.size
        have HE : Hid (kI.Own w12.heap.size (w12.alloc (.cells #[] 3)) (.slice (some ⟨w12.heap.size, 0, none⟩) 0 0) []) := hid (Kind.Own.new kI _ w12 (Nat.le_refl _))
        have PE := hid (P12.out.later (below1 w12 (.cells #[] 3)))
        have QE := hid (Q12.out.later (below1 w12 (.cells #[] 3)))
        have hbE : Hid (Below w12.heap.size w12 (w12.alloc (.cells #[] 3))) := hid (below1 w12 (.cells #[] 3))
        go_wp2_with (first | (at_builtin; have _g := HO91; refine Kind.appG kI_ok w91 (by rfl) (.tmp 104) (.tmp 105) rfl w12.heap.size (.slice ao1 ([] ++ l1).length ca1) ([] ++ l1) rfl HO91.out (by have := hb91.out.size; omega) o8 l2 l2.length c8 rfl rfl _ Q91.out (by simp; omega) ?_; intro ao2 ca2 w92 hO92 hB92; have HO92 := hid hO92; have hb92 : Hid (Below w12.heap.size w12 w92) := hid (hb91.out.trans hB92); clear hO92 hB92) | (at_builtin; refine Kind.appG kI_ok (w12.alloc (.cells #[] 3)) (by rfl) (.tmp 102) (.tmp 103) rfl w12.heap.size (.slice (some ⟨w12.heap.size, 0, none⟩) 0 0) [] rfl HE.out (by simp) o6 l1 l1.length c6 rfl rfl _ PE.out (by simp; omega) ?_; intro ao1 ca1 w91 hO91 hB91; have HO91 := hid hO91; have hb91 : Hid (Below w12.heap.size w12 w91) := hid (hbE.out.trans hB91); have Q91 := hid (Q12.out.later hb91.out); clear hO91 hB91))
        clear a0 af0 a1 af1 a2 af2 az x0 xf0 x1 xf1 x2 xf2 xz y0 yf0 y1 yf1 y2 yf2 yz m0 mf0 m1 mf1 m2 mf2 mz t0 tf0 t1 tf1 t2 tf2 tz
        have hll : ([] ++ l1 ++ l2 : List Int) = l := by simpa using HAP.out
        have IN9 : kI.In w92.heap.size w92 ao2 l := by rw [← hll]; obtain ⟨go, qc, e, _, hz⟩ := HO92.out.in; simp only [Value.slice.injEq] at e; rw [e.1]; exact hz
        have hl12 : l1.length + l2.length = l.length := by have h := congrArg List.length HAP.out; simpa using h
        rw [hl12]
        clear hl12
        clear hll
        have hb92b := hb92.out
        clear hb92 hb91 HO91 HO92 Q91 QE PE HE hbE
        have hB92 := hB12.trans (hb92b.mono hB12.size)
        have hs92 : w.heap.size ≤ w92.heap.size := Nat.le_trans hs12 hb92b.size
        have hz92 : w12.heap.size ≤ w92.heap.size := hb92b.size
        have XA92 := hid (XA12.out.later hb92b)
        have XX92 := hid (XX12.out.later hb92b)
        have XY92 := hid (XY12.out.later hb92b)
        have XM92 := hid (XM12.out.later hb92b)
        have XT92 := hid (XT12.out.later hb92b)
        have D92 := hid (D12.out.later hb92b)
        have F92 := hid (F12.out.later hb92b)
        have U92 := hid (U12.out.later hb92b)
        have V92 := hid (V12.out.later hb92b)
        have G92 := hid (G12.out.later hb92b)
        have P92 := hid (P12.out.later hb92b)
        have J92 := hid (J12.out.later hb92b)
        have Q92 := hid (Q12.out.later hb92b)
        clear XA12 XX12 XY12 XM12 XT12 D12 F12 U12 V12 G12 P12 J12 Q12
        refine (sameInts_same ao2 o2 ca2 c2 l w92 (by omega) IN9 U92.out).mono ?_
        rintro e w93 ⟨rfl, hb93⟩
        have hB93 := hB92.trans (hb93.mono hB92.size)
        have hs93 : w.heap.size ≤ w93.heap.size := Nat.le_trans hs92 hb93.size
        have hz93 : w92.heap.size ≤ w93.heap.size := hb93.size
        have XA93 := hid (XA92.out.later hb93)
        have XX93 := hid (XX92.out.later hb93)
        have XY93 := hid (XY92.out.later hb93)
        have XM93 := hid (XM92.out.later hb93)
        have XT93 := hid (XT92.out.later hb93)
        have D93 := hid (D92.out.later hb93)
        have F93 := hid (F92.out.later hb93)
        have U93 := hid (U92.out.later hb93)
        have V93 := hid (V92.out.later hb93)
        have G93 := hid (G92.out.later hb93)
        have P93 := hid (P92.out.later hb93)
        have J93 := hid (J92.out.later hb93)
        have Q93 := hid (Q92.out.later hb93)
        clear XA92 XX92 XY92 XM92 XT92 D92 F92 U92 V92 G92 P92 J92 Q92
        clear hb93
        obtain ⟨nz, hnz⟩ : ∃ z, Old.nextI N S L = z := ⟨_, rfl⟩
        obtain ⟨nb, hnb⟩ : ∃ b, Old.nextB N S L = b := ⟨_, rfl⟩
        have hlt : nb = true → N < nz := fun e => by rw [← hnz]; exact next_late HLATE.out (by rw [hnb, e])
        have HNZ := hid hnz
        have HNB := hid hnb
        clear hnz hnb
        have a0 := XA93.out.c 0 rfl
        have af0 := XA93.out.f 0 rfl
        have a1 := XA93.out.c 1 rfl
        have af1 := XA93.out.f 1 rfl
        have a2 := XA93.out.c 2 rfl
        have af2 := XA93.out.f 2 rfl
        have az := XA93.out.size
        have x0 := XX93.out.c 0 rfl
        have xf0 := XX93.out.f 0 rfl
        have x1 := XX93.out.c 1 rfl
        have xf1 := XX93.out.f 1 rfl
        have x2 := XX93.out.c 2 rfl
        have xf2 := XX93.out.f 2 rfl
        have xz := XX93.out.size
        have y0 := XY93.out.c 0 rfl
        have yf0 := XY93.out.f 0 rfl
        have y1 := XY93.out.c 1 rfl
        have yf1 := XY93.out.f 1 rfl
        have y2 := XY93.out.c 2 rfl
        have yf2 := XY93.out.f 2 rfl
        have yz := XY93.out.size
        have m0 := XM93.out.c 0 rfl
        have mf0 := XM93.out.f 0 rfl
        have m1 := XM93.out.c 1 rfl
        have mf1 := XM93.out.f 1 rfl
        have m2 := XM93.out.c 2 rfl
        have mf2 := XM93.out.f 2 rfl
        have mz := XM93.out.size
        have t0 := XT93.out.c 0 rfl
        have tf0 := XT93.out.f 0 rfl
        have t1 := XT93.out.c 1 rfl
        have tf1 := XT93.out.f 1 rfl
        have t2 := XT93.out.c 2 rfl
        have tf2 := XT93.out.f 2 rfl
        have tz := XT93.out.size
        go_wp2_with fail
        clear a0 af0 a1 af1 a2 af2 az x0 xf0 x1 xf1 x2 xf2 xz y0 yf0 y1 yf1 y2 yf2 yz m0 mf0 m1 mf1 m2 mf2 mz t0 tf0 t1 tf1 t2 tf2 tz
        refine (implNext_as N S o1 c1 L nz nb w93 (by omega) hc1 F93.out HNZ.out HNB.out).mono ?_
        rintro e w94 ⟨rfl, hb94⟩
        have hB94 := hB93.trans (hb94.mono hB93.size)
        have hs94 : w.heap.size ≤ w94.heap.size := Nat.le_trans hs93 hb94.size
        have hz94 : w93.heap.size ≤ w94.heap.size := hb94.size
        have XA94 := hid (XA93.out.later hb94)
        have XX94 := hid (XX93.out.later hb94)
        have XY94 := hid (XY93.out.later hb94)
        have XM94 := hid (XM93.out.later hb94)
        have XT94 := hid (XT93.out.later hb94)
        have D94 := hid (D93.out.later hb94)
        have F94 := hid (F93.out.later hb94)
        have U94 := hid (U93.out.later hb94)
        have V94 := hid (V93.out.later hb94)
        have G94 := hid (G93.out.later hb94)
        have P94 := hid (P93.out.later hb94)
        have J94 := hid (J93.out.later hb94)
        have Q94 := hid (Q93.out.later hb94)
        clear XA93 XX93 XY93 XM93 XT93 D93 F93 U93 V93 G93 P93 J93 Q93
        clear hb94
        cases nb
        · have a0 := XA94.out.c 0 rfl
          have af0 := XA94.out.f 0 rfl
          have a1 := XA94.out.c 1 rfl
          have af1 := XA94.out.f 1 rfl
          have a2 := XA94.out.c 2 rfl
          have af2 := XA94.out.f 2 rfl
          have az := XA94.out.size
          have x0 := XX94.out.c 0 rfl
          have xf0 := XX94.out.f 0 rfl
          have x1 := XX94.out.c 1 rfl
          have xf1 := XX94.out.f 1 rfl
          have x2 := XX94.out.c 2 rfl
          have xf2 := XX94.out.f 2 rfl
          have xz := XX94.out.size
          have y0 := XY94.out.c 0 rfl
          have yf0 := XY94.out.f 0 rfl
          have y1 := XY94.out.c 1 rfl
          have yf1 := XY94.out.f 1 rfl
          have y2 := XY94.out.c 2 rfl
          have yf2 := XY94.out.f 2 rfl
          have yz := XY94.out.size
          have m0 := XM94.out.c 0 rfl
          have mf0 := XM94.out.f 0 rfl
          have m1 := XM94.out.c 1 rfl
          have mf1 := XM94.out.f 1 rfl
          have m2 := XM94.out.c 2 rfl
          have mf2 := XM94.out.f 2 rfl
          have mz := XM94.out.size
          have t0 := XT94.out.c 0 rfl
          have tf0 := XT94.out.f 0 rfl
          have t1 := XT94.out.c 1 rfl
          have tf1 := XT94.out.f 1 rfl
          have t2 := XT94.out.c 2 rfl
          have tf2 := XT94.out.f 2 rfl
          have tz := XT94.out.size
          go_wp2
          go_ret
          exact ⟨rfl, hB94⟩
        · have hgt : decide (N < nz) = true := by simpa using hlt rfl
          have a0 := XA94.out.c 0 rfl
          have af0 := XA94.out.f 0 rfl
          have a1 := XA94.out.c 1 rfl
          have af1 := XA94.out.f 1 rfl
          have a2 := XA94.out.c 2 rfl
          have af2 := XA94.out.f 2 rfl
          have az := XA94.out.size
          have x0 := XX94.out.c 0 rfl
          have xf0 := XX94.out.f 0 rfl
          have x1 := XX94.out.c 1 rfl
          have xf1 := XX94.out.f 1 rfl
          have x2 := XX94.out.c 2 rfl
          have xf2 := XX94.out.f 2 rfl
          have xz := XX94.out.size
          have y0 := XY94.out.c 0 rfl
          have yf0 := XY94.out.f 0 rfl
          have y1 := XY94.out.c 1 rfl
          have yf1 := XY94.out.f 1 rfl
          have y2 := XY94.out.c 2 rfl
          have yf2 := XY94.out.f 2 rfl
          have yz := XY94.out.size
          have m0 := XM94.out.c 0 rfl
          have mf0 := XM94.out.f 0 rfl
          have m1 := XM94.out.c 1 rfl
          have mf1 := XM94.out.f 1 rfl
          have m2 := XM94.out.c 2 rfl
          have mf2 := XM94.out.f 2 rfl
          have mz := XM94.out.size
          have t0 := XT94.out.c 0 rfl
          have tf0 := XT94.out.f 0 rfl
          have t1 := XT94.out.c 1 rfl
          have tf1 := XT94.out.f 1 rfl
          have t2 := XT94.out.c 2 rfl
          have tf2 := XT94.out.f 2 rfl
          have tz := XT94.out.size
          go_wp2
          go_ret
          exact ⟨rfl, hB94⟩
    · have hgt1 : decide (now < t) = false := by simpa using hgt
      clear hgt
      obtain ⟨L1, L2, l1, l2, hA1, hA2, happ, hlen, hL1l, rfl, rfl, hgd, hlate, _, _⟩ := Old.fired_all (mid := now) HR.out (by omega) (by omega)
      have hsh1 := adv_short (now := now) (sq := S) (t := now) hl31
      rw [hA1] at hsh1
      dsimp only at hsh1
      obtain ⟨hL131, hl131⟩ := hsh1
      have hl2 : l2.length ≤ 31 := by have := congrArg List.length happ; simp at this; omega
      have hne : ((L2.length : Int) != (L.length : Int)) = false := by simp; omega
      have HA1 := hid hA1
      have HA2 := hid hA2
      have HAP := hid happ
      have HLEN := hid hlen
      have HGD := hid hgd
      have HLATE := hid hlate
      clear hA1 hA2 happ hlen hgd hlate
      have a0 := XA7.out.c 0 rfl
      have af0 := XA7.out.f 0 rfl
      have a1 := XA7.out.c 1 rfl
      have af1 := XA7.out.f 1 rfl
      have a2 := XA7.out.c 2 rfl
      have af2 := XA7.out.f 2 rfl
      have az := XA7.out.size
      have x0 := XX7.out.c 0 rfl
      have xf0 := XX7.out.f 0 rfl
      have x1 := XX7.out.c 1 rfl
      have xf1 := XX7.out.f 1 rfl
      have x2 := XX7.out.c 2 rfl
      have xf2 := XX7.out.f 2 rfl
      have xz := XX7.out.size
      have y0 := XY7.out.c 0 rfl
      have yf0 := XY7.out.f 0 rfl
      have y1 := XY7.out.c 1 rfl
      have yf1 := XY7.out.f 1 rfl
      have y2 := XY7.out.c 2 rfl
      have yf2 := XY7.out.f 2 rfl
      have yz := XY7.out.size
      go_wp2_with fail
      clear a0 af0 a1 af1 a2 af2 az x0 xf0 x1 xf1 x2 xf2 xz y0 yf0 y1 yf1 y2 yf2 yz
      refine (implAdv_as now S ta tc ts (now) (now) S L1 l1 0 w7 (by omega) D7.out.cap D7.out.in HA1.out).mono ?_
      rintro e w8 ⟨⟨o5, c5, o6, c6, rfl, hc5, hF1, hF2⟩, hb8⟩
      have hB8 := hB7.trans (hb8.mono hB7.size)
      have hs8 : w.heap.size ≤ w8.heap.size := Nat.le_trans hs7 hb8.size
      have hz8 : w7.heap.size ≤ w8.heap.size := hb8.size
      have XA8 := hid (XA7.out.later hb8)
      have XX8 := hid (XX7.out.later hb8)
      have XY8 := hid (XY7.out.later hb8)
      have D8 := hid (D7.out.later hb8)
      have F8 := hid (F7.out.later hb8)
      have U8 := hid (U7.out.later hb8)
      have V8 := hid (V7.out.later hb8)
      clear XA7 XX7 XY7 D7 F7 U7 V7
      have G8 := hid (hF1)
      have P8 := hid (hF2)
      clear hb8 hF1 hF2
      have a0 := XA8.out.c 0 rfl
      have af0 := XA8.out.f 0 rfl
      have a1 := XA8.out.c 1 rfl
      have af1 := XA8.out.f 1 rfl
      have a2 := XA8.out.c 2 rfl
      have af2 := XA8.out.f 2 rfl
      have az := XA8.out.size
      have x0 := XX8.out.c 0 rfl
      have xf0 := XX8.out.f 0 rfl
      have x1 := XX8.out.c 1 rfl
      have xf1 := XX8.out.f 1 rfl
      have x2 := XX8.out.c 2 rfl
      have xf2 := XX8.out.f 2 rfl
      have xz := XX8.out.size
      have y0 := XY8.out.c 0 rfl
      have yf0 := XY8.out.f 0 rfl
      have y1 := XY8.out.c 1 rfl
      have yf1 := XY8.out.f 1 rfl
      have y2 := XY8.out.c 2 rfl
      have yf2 := XY8.out.f 2 rfl
      have yz := XY8.out.size
      obtain ⟨w9, hV⟩ : ∃ V, V = w8.alloc (.cells #[.int .i64 now, .int .i64 S, .slice o5 L1.length c5] 25) := ⟨_, rfl⟩
      have hz9 : w8.heap.size ≤ w9.heap.size := by rw [hV]; simp
      have hs9 : w.heap.size ≤ w9.heap.size := Nat.le_trans hs8 hz9
      have hB9 : Below w.heap.size w w9 := by rw [hV]; exact Below.allocS hB8 _
      have XA9 := hid (XA8.out.alloc (.cells #[.int .i64 now, .int .i64 S, .slice o5 L1.length c5] 25))
      rw [← hV] at XA9
      have XX9 := hid (XX8.out.alloc (.cells #[.int .i64 now, .int .i64 S, .slice o5 L1.length c5] 25))
      rw [← hV] at XX9
      have XY9 := hid (XY8.out.alloc (.cells #[.int .i64 now, .int .i64 S, .slice o5 L1.length c5] 25))
      rw [← hV] at XY9
      have D9 := hid (D8.out.later (below1 w8 (.cells #[.int .i64 now, .int .i64 S, .slice o5 L1.length c5] 25)))
      rw [← hV] at D9
      have F9 := hid (F8.out.later (below1 w8 (.cells #[.int .i64 now, .int .i64 S, .slice o5 L1.length c5] 25)))
      rw [← hV] at F9
      have U9 := hid (U8.out.later (below1 w8 (.cells #[.int .i64 now, .int .i64 S, .slice o5 L1.length c5] 25)))
      rw [← hV] at U9
      have V9 := hid (V8.out.later (below1 w8 (.cells #[.int .i64 now, .int .i64 S, .slice o5 L1.length c5] 25)))
      rw [← hV] at V9
      have G9 := hid (G8.out.later (below1 w8 (.cells #[.int .i64 now, .int .i64 S, .slice o5 L1.length c5] 25)))
      rw [← hV] at G9
      have P9 := hid (P8.out.later (below1 w8 (.cells #[.int .i64 now, .int .i64 S, .slice o5 L1.length c5] 25)))
      rw [← hV] at P9
      have H9 : Hid (w9 = w8.alloc (.cells #[.int .i64 now, .int .i64 S, .slice o5 L1.length c5] 25)) := hV
      clear hV XA8 XX8 XY8 D8 F8 U8 V8 G8 P8
      have XM9 : Hid (Bx w9 w8.heap.size [.int .i64 now, .int .i64 S, .slice o5 L1.length c5]) := by rw [H9.out]; exact Bx.new [.int .i64 now, .int .i64 S, .slice o5 L1.length c5] _ rfl
      have hy9 : w8.heap.size < w9.heap.size := XM9.out.size
      go_wp2_with fail
      clear a0 af0 a1 af1 a2 af2 az x0 xf0 x1 xf1 x2 xf2 xz y0 yf0 y1 yf1 y2 yf2 yz
      rw [← H9.out]
      refine (implAdv_as (now) S o5 c5 L1 N N S L2 l2 0 w9 (by omega) hc5 G9.out HA2.out).mono ?_
      rintro e w10 ⟨⟨o7, c7, o8, c8, rfl, hc7, hF1, hF2⟩, hb10⟩
      have hB10 := hB9.trans (hb10.mono hB9.size)
      have hs10 : w.heap.size ≤ w10.heap.size := Nat.le_trans hs9 hb10.size
      have hz10 : w9.heap.size ≤ w10.heap.size := hb10.size
      have XA10 := hid (XA9.out.later hb10)
      have XX10 := hid (XX9.out.later hb10)
      have XY10 := hid (XY9.out.later hb10)
      have XM10 := hid (XM9.out.later hb10)
      have D10 := hid (D9.out.later hb10)
      have F10 := hid (F9.out.later hb10)
      have U10 := hid (U9.out.later hb10)
      have V10 := hid (V9.out.later hb10)
      have G10 := hid (G9.out.later hb10)
      have P10 := hid (P9.out.later hb10)
      clear XA9 XX9 XY9 XM9 D9 F9 U9 V9 G9 P9
      have J10 := hid (hF1)
      have Q10 := hid (hF2)
      clear hb10 hF1 hF2
      have a0 := XA10.out.c 0 rfl
      have af0 := XA10.out.f 0 rfl
      have a1 := XA10.out.c 1 rfl
      have af1 := XA10.out.f 1 rfl
      have a2 := XA10.out.c 2 rfl
      have af2 := XA10.out.f 2 rfl
      have az := XA10.out.size
      have x0 := XX10.out.c 0 rfl
      have xf0 := XX10.out.f 0 rfl
      have x1 := XX10.out.c 1 rfl
      have xf1 := XX10.out.f 1 rfl
      have x2 := XX10.out.c 2 rfl
      have xf2 := XX10.out.f 2 rfl
      have xz := XX10.out.size
      have y0 := XY10.out.c 0 rfl
      have yf0 := XY10.out.f 0 rfl
      have y1 := XY10.out.c 1 rfl
      have yf1 := XY10.out.f 1 rfl
      have y2 := XY10.out.c 2 rfl
      have yf2 := XY10.out.f 2 rfl
      have yz := XY10.out.size
      have m0 := XM10.out.c 0 rfl
      have mf0 := XM10.out.f 0 rfl
      have m1 := XM10.out.c 1 rfl
      have mf1 := XM10.out.f 1 rfl
      have m2 := XM10.out.c 2 rfl
      have mf2 := XM10.out.f 2 rfl
      have mz := XM10.out.size
      obtain ⟨w11, hV⟩ : ∃ V, V = w10.alloc (.cells #[.int .i64 N, .int .i64 S, .slice o7 L2.length c7] 25) := ⟨_, rfl⟩
      have hz11 : w10.heap.size ≤ w11.heap.size := by rw [hV]; simp
      have hs11 : w.heap.size ≤ w11.heap.size := Nat.le_trans hs10 hz11
      have hB11 : Below w.heap.size w w11 := by rw [hV]; exact Below.allocS hB10 _
      have XA11 := hid (XA10.out.alloc (.cells #[.int .i64 N, .int .i64 S, .slice o7 L2.length c7] 25))
      rw [← hV] at XA11
      have XX11 := hid (XX10.out.alloc (.cells #[.int .i64 N, .int .i64 S, .slice o7 L2.length c7] 25))
      rw [← hV] at XX11
      have XY11 := hid (XY10.out.alloc (.cells #[.int .i64 N, .int .i64 S, .slice o7 L2.length c7] 25))
      rw [← hV] at XY11
      have XM11 := hid (XM10.out.alloc (.cells #[.int .i64 N, .int .i64 S, .slice o7 L2.length c7] 25))
      rw [← hV] at XM11
      have D11 := hid (D10.out.later (below1 w10 (.cells #[.int .i64 N, .int .i64 S, .slice o7 L2.length c7] 25)))
      rw [← hV] at D11
      have F11 := hid (F10.out.later (below1 w10 (.cells #[.int .i64 N, .int .i64 S, .slice o7 L2.length c7] 25)))
      rw [← hV] at F11
      have U11 := hid (U10.out.later (below1 w10 (.cells #[.int .i64 N, .int .i64 S, .slice o7 L2.length c7] 25)))
      rw [← hV] at U11
      have V11 := hid (V10.out.later (below1 w10 (.cells #[.int .i64 N, .int .i64 S, .slice o7 L2.length c7] 25)))
      rw [← hV] at V11
      have G11 := hid (G10.out.later (below1 w10 (.cells #[.int .i64 N, .int .i64 S, .slice o7 L2.length c7] 25)))
      rw [← hV] at G11
      have P11 := hid (P10.out.later (below1 w10 (.cells #[.int .i64 N, .int .i64 S, .slice o7 L2.length c7] 25)))
      rw [← hV] at P11
      have J11 := hid (J10.out.later (below1 w10 (.cells #[.int .i64 N, .int .i64 S, .slice o7 L2.length c7] 25)))
      rw [← hV] at J11
      have Q11 := hid (Q10.out.later (below1 w10 (.cells #[.int .i64 N, .int .i64 S, .slice o7 L2.length c7] 25)))
      rw [← hV] at Q11
      have H11 : Hid (w11 = w10.alloc (.cells #[.int .i64 N, .int .i64 S, .slice o7 L2.length c7] 25)) := hV
      clear hV XA10 XX10 XY10 XM10 D10 F10 U10 V10 G10 P10 J10 Q10
      have XT11 : Hid (Bx w11 w10.heap.size [.int .i64 N, .int .i64 S, .slice o7 L2.length c7]) := by rw [H11.out]; exact Bx.new [.int .i64 N, .int .i64 S, .slice o7 L2.length c7] _ rfl
      have hy11 : w10.heap.size < w11.heap.size := XT11.out.size
      go_upto_region 15 with fail
      clear a0 af0 a1 af1 a2 af2 az x0 xf0 x1 xf1 x2 xf2 xz y0 yf0 y1 yf1 y2 yf2 yz m0 mf0 m1 mf1 m2 mf2 mz
      rw [← H11.out]
      have a0 := XA11.out.c 0 rfl
      have af0 := XA11.out.f 0 rfl
      have a1 := XA11.out.c 1 rfl
      have af1 := XA11.out.f 1 rfl
      have a2 := XA11.out.c 2 rfl
      have af2 := XA11.out.f 2 rfl
      have az := XA11.out.size
      have x0 := XX11.out.c 0 rfl
      have xf0 := XX11.out.f 0 rfl
      have x1 := XX11.out.c 1 rfl
      have xf1 := XX11.out.f 1 rfl
      have x2 := XX11.out.c 2 rfl
      have xf2 := XX11.out.f 2 rfl
      have xz := XX11.out.size
      have y0 := XY11.out.c 0 rfl
      have yf0 := XY11.out.f 0 rfl
      have y1 := XY11.out.c 1 rfl
      have yf1 := XY11.out.f 1 rfl
      have y2 := XY11.out.c 2 rfl
      have yf2 := XY11.out.f 2 rfl
      have yz := XY11.out.size
      have m0 := XM11.out.c 0 rfl
      have mf0 := XM11.out.f 0 rfl
      have m1 := XM11.out.c 1 rfl
      have mf1 := XM11.out.f 1 rfl
      have m2 := XM11.out.c 2 rfl
      have mf2 := XM11.out.f 2 rfl
      have mz := XM11.out.size
      have t0 := XT11.out.c 0 rfl
      have tf0 := XT11.out.f 0 rfl
      have t1 := XT11.out.c 1 rfl
      have tf1 := XT11.out.f 1 rfl
      have t2 := XT11.out.c 2 rfl
      have tf2 := XT11.out.f 2 rfl
      have tz := XT11.out.size
      have HE : Hid (kI.Own w11.heap.size (w11.alloc (.cells #[] 3)) (.slice (some ⟨w11.heap.size, 0, none⟩) 0 0) []) := hid (Kind.Own.new kI _ w11 (Nat.le_refl _))
      have PE := hid (P11.out.later (below1 w11 (.cells #[] 3)))
      have QE := hid (Q11.out.later (below1 w11 (.cells #[] 3)))
      have hbE : Hid (Below w11.heap.size w11 (w11.alloc (.cells #[] 3))) := hid (below1 w11 (.cells #[] 3))
      go_wp2_with (first | (at_builtin; have _g := HO91; refine Kind.appG kI_ok w91 (by rfl) (.tmp 104) (.tmp 105) rfl w11.heap.size (.slice ao1 ([] ++ l1).length ca1) ([] ++ l1) rfl HO91.out (by have := hb91.out.size; omega) o8 l2 l2.length c8 rfl rfl _ Q91.out (by simp; omega) ?_; intro ao2 ca2 w92 hO92 hB92; have HO92 := hid hO92; have hb92 : Hid (Below w11.heap.size w11 w92) := hid (hb91.out.trans hB92); clear hO92 hB92) | (at_builtin; refine Kind.appG kI_ok (w11.alloc (.cells #[] 3)) (by rfl) (.tmp 102) (.tmp 103) rfl w11.heap.size (.slice (some ⟨w11.heap.size, 0, none⟩) 0 0) [] rfl HE.out (by simp) o6 l1 l1.length c6 rfl rfl _ PE.out (by simp; omega) ?_; intro ao1 ca1 w91 hO91 hB91; have HO91 := hid hO91; have hb91 : Hid (Below w11.heap.size w11 w91) := hid (hbE.out.trans hB91); have Q91 := hid (Q11.out.later hb91.out); clear hO91 hB91))
      clear a0 af0 a1 af1 a2 af2 az x0 xf0 x1 xf1 x2 xf2 xz y0 yf0 y1 yf1 y2 yf2 yz m0 mf0 m1 mf1 m2 mf2 mz t0 tf0 t1 tf1 t2 tf2 tz
      have hll : ([] ++ l1 ++ l2 : List Int) = l := by simpa using HAP.out
      have IN9 : kI.In w92.heap.size w92 ao2 l := by rw [← hll]; obtain ⟨go, qc, e, _, hz⟩ := HO92.out.in; simp only [Value.slice.injEq] at e; rw [e.1]; exact hz
      have hl12 : l1.length + l2.length = l.length := by have h := congrArg List.length HAP.out; simpa using h
      rw [hl12]
      clear hl12
      clear hll
      have hb92b := hb92.out
      clear hb92 hb91 HO91 HO92 Q91 QE PE HE hbE
      have hB92 := hB11.trans (hb92b.mono hB11.size)
      have hs92 : w.heap.size ≤ w92.heap.size := Nat.le_trans hs11 hb92b.size
      have hz92 : w11.heap.size ≤ w92.heap.size := hb92b.size
      have XA92 := hid (XA11.out.later hb92b)
      have XX92 := hid (XX11.out.later hb92b)
      have XY92 := hid (XY11.out.later hb92b)
      have XM92 := hid (XM11.out.later hb92b)
      have XT92 := hid (XT11.out.later hb92b)
      have D92 := hid (D11.out.later hb92b)
      have F92 := hid (F11.out.later hb92b)
      have U92 := hid (U11.out.later hb92b)
      have V92 := hid (V11.out.later hb92b)
      have G92 := hid (G11.out.later hb92b)
      have P92 := hid (P11.out.later hb92b)
      have J92 := hid (J11.out.later hb92b)
      have Q92 := hid (Q11.out.later hb92b)
      clear XA11 XX11 XY11 XM11 XT11 D11 F11 U11 V11 G11 P11 J11 Q11
      refine (sameInts_same ao2 o2 ca2 c2 l w92 (by omega) IN9 U92.out).mono ?_
      rintro e w93 ⟨rfl, hb93⟩
      have hB93 := hB92.trans (hb93.mono hB92.size)
      have hs93 : w.heap.size ≤ w93.heap.size := Nat.le_trans hs92 hb93.size
      have hz93 : w92.heap.size ≤ w93.heap.size := hb93.size
      have XA93 := hid (XA92.out.later hb93)
      have XX93 := hid (XX92.out.later hb93)
      have XY93 := hid (XY92.out.later hb93)
      have XM93 := hid (XM92.out.later hb93)
      have XT93 := hid (XT92.out.later hb93)
      have D93 := hid (D92.out.later hb93)
      have F93 := hid (F92.out.later hb93)
      have U93 := hid (U92.out.later hb93)
      have V93 := hid (V92.out.later hb93)
      have G93 := hid (G92.out.later hb93)
      have P93 := hid (P92.out.later hb93)
      have J93 := hid (J92.out.later hb93)
      have Q93 := hid (Q92.out.later hb93)
      clear XA92 XX92 XY92 XM92 XT92 D92 F92 U92 V92 G92 P92 J92 Q92
      clear hb93
      obtain ⟨nz, hnz⟩ : ∃ z, Old.nextI N S L = z := ⟨_, rfl⟩
      obtain ⟨nb, hnb⟩ : ∃ b, Old.nextB N S L = b := ⟨_, rfl⟩
      have hlt : nb = true → N < nz := fun e => by rw [← hnz]; exact next_late HLATE.out (by rw [hnb, e])
      have HNZ := hid hnz
      have HNB := hid hnb
      clear hnz hnb
      have a0 := XA93.out.c 0 rfl
      have af0 := XA93.out.f 0 rfl
      have a1 := XA93.out.c 1 rfl
      have af1 := XA93.out.f 1 rfl
      have a2 := XA93.out.c 2 rfl
      have af2 := XA93.out.f 2 rfl
      have az := XA93.out.size
      have x0 := XX93.out.c 0 rfl
      have xf0 := XX93.out.f 0 rfl
      have x1 := XX93.out.c 1 rfl
      have xf1 := XX93.out.f 1 rfl
      have x2 := XX93.out.c 2 rfl
      have xf2 := XX93.out.f 2 rfl
      have xz := XX93.out.size
      have y0 := XY93.out.c 0 rfl
      have yf0 := XY93.out.f 0 rfl
      have y1 := XY93.out.c 1 rfl
      have yf1 := XY93.out.f 1 rfl
      have y2 := XY93.out.c 2 rfl
      have yf2 := XY93.out.f 2 rfl
      have yz := XY93.out.size
      have m0 := XM93.out.c 0 rfl
      have mf0 := XM93.out.f 0 rfl
      have m1 := XM93.out.c 1 rfl
      have mf1 := XM93.out.f 1 rfl
      have m2 := XM93.out.c 2 rfl
      have mf2 := XM93.out.f 2 rfl
      have mz := XM93.out.size
      have t0 := XT93.out.c 0 rfl
      have tf0 := XT93.out.f 0 rfl
      have t1 := XT93.out.c 1 rfl
      have tf1 := XT93.out.f 1 rfl
      have t2 := XT93.out.c 2 rfl
      have tf2 := XT93.out.f 2 rfl
      have tz := XT93.out.size
      go_wp2_with fail
      clear a0 af0 a1 af1 a2 af2 az x0 xf0 x1 xf1 x2 xf2 xz y0 yf0 y1 yf1 y2 yf2 yz m0 mf0 m1 mf1 m2 mf2 mz t0 tf0 t1 tf1 t2 tf2 tz
      refine (implNext_as N S o1 c1 L nz nb w93 (by omega) hc1 F93.out HNZ.out HNB.out).mono ?_
      rintro e w94 ⟨rfl, hb94⟩
      have hB94 := hB93.trans (hb94.mono hB93.size)
      have hs94 : w.heap.size ≤ w94.heap.size := Nat.le_trans hs93 hb94.size
      have hz94 : w93.heap.size ≤ w94.heap.size := hb94.size
      have XA94 := hid (XA93.out.later hb94)
      have XX94 := hid (XX93.out.later hb94)
      have XY94 := hid (XY93.out.later hb94)
      have XM94 := hid (XM93.out.later hb94)
      have XT94 := hid (XT93.out.later hb94)
      have D94 := hid (D93.out.later hb94)
      have F94 := hid (F93.out.later hb94)
      have U94 := hid (U93.out.later hb94)
      have V94 := hid (V93.out.later hb94)
      have G94 := hid (G93.out.later hb94)
      have P94 := hid (P93.out.later hb94)
      have J94 := hid (J93.out.later hb94)
      have Q94 := hid (Q93.out.later hb94)
      clear XA93 XX93 XY93 XM93 XT93 D93 F93 U93 V93 G93 P93 J93 Q93
      clear hb94
      cases nb
      · have a0 := XA94.out.c 0 rfl
        have af0 := XA94.out.f 0 rfl
        have a1 := XA94.out.c 1 rfl
        have af1 := XA94.out.f 1 rfl
        have a2 := XA94.out.c 2 rfl
        have af2 := XA94.out.f 2 rfl
        have az := XA94.out.size
        have x0 := XX94.out.c 0 rfl
        have xf0 := XX94.out.f 0 rfl
        have x1 := XX94.out.c 1 rfl
        have xf1 := XX94.out.f 1 rfl
        have x2 := XX94.out.c 2 rfl
        have xf2 := XX94.out.f 2 rfl
        have xz := XX94.out.size
        have y0 := XY94.out.c 0 rfl
        have yf0 := XY94.out.f 0 rfl
        have y1 := XY94.out.c 1 rfl
        have yf1 := XY94.out.f 1 rfl
        have y2 := XY94.out.c 2 rfl
        have yf2 := XY94.out.f 2 rfl
        have yz := XY94.out.size
        have m0 := XM94.out.c 0 rfl
        have mf0 := XM94.out.f 0 rfl
        have m1 := XM94.out.c 1 rfl
        have mf1 := XM94.out.f 1 rfl
        have m2 := XM94.out.c 2 rfl
        have mf2 := XM94.out.f 2 rfl
        have mz := XM94.out.size
        have t0 := XT94.out.c 0 rfl
        have tf0 := XT94.out.f 0 rfl
        have t1 := XT94.out.c 1 rfl
        have tf1 := XT94.out.f 1 rfl
        have t2 := XT94.out.c 2 rfl
        have tf2 := XT94.out.f 2 rfl
        have tz := XT94.out.size
        go_wp2
        go_ret
        exact ⟨rfl, hB94⟩
      · have hgt : decide (N < nz) = true := by simpa using hlt rfl
        have a0 := XA94.out.c 0 rfl
        have af0 := XA94.out.f 0 rfl
        have a1 := XA94.out.c 1 rfl
        have af1 := XA94.out.f 1 rfl
        have a2 := XA94.out.c 2 rfl
        have af2 := XA94.out.f 2 rfl
        have az := XA94.out.size
        have x0 := XX94.out.c 0 rfl
        have xf0 := XX94.out.f 0 rfl
        have x1 := XX94.out.c 1 rfl
        have xf1 := XX94.out.f 1 rfl
        have x2 := XX94.out.c 2 rfl
        have xf2 := XX94.out.f 2 rfl
        have xz := XX94.out.size
        have y0 := XY94.out.c 0 rfl
        have yf0 := XY94.out.f 0 rfl
        have y1 := XY94.out.c 1 rfl
        have yf1 := XY94.out.f 1 rfl
        have y2 := XY94.out.c 2 rfl
        have yf2 := XY94.out.f 2 rfl
        have yz := XY94.out.size
        have m0 := XM94.out.c 0 rfl
        have mf0 := XM94.out.f 0 rfl
        have m1 := XM94.out.c 1 rfl
        have mf1 := XM94.out.f 1 rfl
        have m2 := XM94.out.c 2 rfl
        have mf2 := XM94.out.f 2 rfl
        have mz := XM94.out.size
        have t0 := XT94.out.c 0 rfl
        have tf0 := XT94.out.f 0 rfl
        have t1 := XT94.out.c 1 rfl
        have tf1 := XT94.out.f 1 rfl
        have t2 := XT94.out.c 2 rfl
        have tf2 := XT94.out.f 2 rfl
        have tz := XT94.out.size
        go_wp2
        go_ret
        exact ⟨rfl, hB94⟩
  · have hlt1 : decide (t - now < 1000000) = false := by simpa using hlt
    obtain ⟨L1, L2, l1, l2, hA1, hA2, happ, hlen, hL1l, rfl, rfl, hgd, hlate, _, _⟩ := Old.fired_all (mid := now) HR.out (by omega) (by omega)
    have hsh1 := adv_short (now := now) (sq := S) (t := now) hl31
    rw [hA1] at hsh1
    dsimp only at hsh1
    obtain ⟨hL131, hl131⟩ := hsh1
    have hl2 : l2.length ≤ 31 := by have := congrArg List.length happ; simp at this; omega
    have hne : ((L2.length : Int) != (L.length : Int)) = false := by simp; omega
    have HA1 := hid hA1
    have HA2 := hid hA2
    have HAP := hid happ
    have HLEN := hid hlen
    have HGD := hid hgd
    have HLATE := hid hlate
    clear hA1 hA2 happ hlen hgd hlate
    have a0 := XA7.out.c 0 rfl
    have af0 := XA7.out.f 0 rfl
    have a1 := XA7.out.c 1 rfl
    have af1 := XA7.out.f 1 rfl
    have a2 := XA7.out.c 2 rfl
    have af2 := XA7.out.f 2 rfl
    have az := XA7.out.size
    have x0 := XX7.out.c 0 rfl
    have xf0 := XX7.out.f 0 rfl
    have x1 := XX7.out.c 1 rfl
    have xf1 := XX7.out.f 1 rfl
    have x2 := XX7.out.c 2 rfl
    have xf2 := XX7.out.f 2 rfl
    have xz := XX7.out.size
    have y0 := XY7.out.c 0 rfl
    have yf0 := XY7.out.f 0 rfl
    have y1 := XY7.out.c 1 rfl
    have yf1 := XY7.out.f 1 rfl
    have y2 := XY7.out.c 2 rfl
    have yf2 := XY7.out.f 2 rfl
    have yz := XY7.out.size
    go_wp2_with fail
    clear a0 af0 a1 af1 a2 af2 az x0 xf0 x1 xf1 x2 xf2 xz y0 yf0 y1 yf1 y2 yf2 yz
    refine (implAdv_as now S ta tc ts (now) (now) S L1 l1 0 w7 (by omega) D7.out.cap D7.out.in HA1.out).mono ?_
    rintro e w8 ⟨⟨o5, c5, o6, c6, rfl, hc5, hF1, hF2⟩, hb8⟩
    have hB8 := hB7.trans (hb8.mono hB7.size)
    have hs8 : w.heap.size ≤ w8.heap.size := Nat.le_trans hs7 hb8.size
    have hz8 : w7.heap.size ≤ w8.heap.size := hb8.size
    have XA8 := hid (XA7.out.later hb8)
    have XX8 := hid (XX7.out.later hb8)
    have XY8 := hid (XY7.out.later hb8)
    have D8 := hid (D7.out.later hb8)
    have F8 := hid (F7.out.later hb8)
    have U8 := hid (U7.out.later hb8)
    have V8 := hid (V7.out.later hb8)
    clear XA7 XX7 XY7 D7 F7 U7 V7
    have G8 := hid (hF1)
    have P8 := hid (hF2)
    clear hb8 hF1 hF2
    have a0 := XA8.out.c 0 rfl
    have af0 := XA8.out.f 0 rfl
    have a1 := XA8.out.c 1 rfl
    have af1 := XA8.out.f 1 rfl
    have a2 := XA8.out.c 2 rfl
    have af2 := XA8.out.f 2 rfl
    have az := XA8.out.size
    have x0 := XX8.out.c 0 rfl
    have xf0 := XX8.out.f 0 rfl
    have x1 := XX8.out.c 1 rfl
    have xf1 := XX8.out.f 1 rfl
    have x2 := XX8.out.c 2 rfl
    have xf2 := XX8.out.f 2 rfl
    have xz := XX8.out.size
    have y0 := XY8.out.c 0 rfl
    have yf0 := XY8.out.f 0 rfl
    have y1 := XY8.out.c 1 rfl
    have yf1 := XY8.out.f 1 rfl
    have y2 := XY8.out.c 2 rfl
    have yf2 := XY8.out.f 2 rfl
    have yz := XY8.out.size
    obtain ⟨w9, hV⟩ : ∃ V, V = w8.alloc (.cells #[.int .i64 now, .int .i64 S, .slice o5 L1.length c5] 25) := ⟨_, rfl⟩
    have hz9 : w8.heap.size ≤ w9.heap.size := by rw [hV]; simp
    have hs9 : w.heap.size ≤ w9.heap.size := Nat.le_trans hs8 hz9
    have hB9 : Below w.heap.size w w9 := by rw [hV]; exact Below.allocS hB8 _
    have XA9 := hid (XA8.out.alloc (.cells #[.int .i64 now, .int .i64 S, .slice o5 L1.length c5] 25))
    rw [← hV] at XA9
    have XX9 := hid (XX8.out.alloc (.cells #[.int .i64 now, .int .i64 S, .slice o5 L1.length c5] 25))
    rw [← hV] at XX9
    have XY9 := hid (XY8.out.alloc (.cells #[.int .i64 now, .int .i64 S, .slice o5 L1.length c5] 25))
    rw [← hV] at XY9
    have D9 := hid (D8.out.later (below1 w8 (.cells #[.int .i64 now, .int .i64 S, .slice o5 L1.length c5] 25)))
    rw [← hV] at D9
    have F9 := hid (F8.out.later (below1 w8 (.cells #[.int .i64 now, .int .i64 S, .slice o5 L1.length c5] 25)))
    rw [← hV] at F9
    have U9 := hid (U8.out.later (below1 w8 (.cells #[.int .i64 now, .int .i64 S, .slice o5 L1.length c5] 25)))
    rw [← hV] at U9
    have V9 := hid (V8.out.later (below1 w8 (.cells #[.int .i64 now, .int .i64 S, .slice o5 L1.length c5] 25)))
    rw [← hV] at V9
    have G9 := hid (G8.out.later (below1 w8 (.cells #[.int .i64 now, .int .i64 S, .slice o5 L1.length c5] 25)))
    rw [← hV] at G9
    have P9 := hid (P8.out.later (below1 w8 (.cells #[.int .i64 now, .int .i64 S, .slice o5 L1.length c5] 25)))
    rw [← hV] at P9
    have H9 : Hid (w9 = w8.alloc (.cells #[.int .i64 now, .int .i64 S, .slice o5 L1.length c5] 25)) := hV
    clear hV XA8 XX8 XY8 D8 F8 U8 V8 G8 P8
    have XM9 : Hid (Bx w9 w8.heap.size [.int .i64 now, .int .i64 S, .slice o5 L1.length c5]) := by rw [H9.out]; exact Bx.new [.int .i64 now, .int .i64 S, .slice o5 L1.length c5] _ rfl
    have hy9 : w8.heap.size < w9.heap.size := XM9.out.size
    go_wp2_with fail
    clear a0 af0 a1 af1 a2 af2 az x0 xf0 x1 xf1 x2 xf2 xz y0 yf0 y1 yf1 y2 yf2 yz
    rw [← H9.out]
    refine (implAdv_as (now) S o5 c5 L1 N N S L2 l2 0 w9 (by omega) hc5 G9.out HA2.out).mono ?_
    rintro e w10 ⟨⟨o7, c7, o8, c8, rfl, hc7, hF1, hF2⟩, hb10⟩
    have hB10 := hB9.trans (hb10.mono hB9.size)
    have hs10 : w.heap.size ≤ w10.heap.size := Nat.le_trans hs9 hb10.size
    have hz10 : w9.heap.size ≤ w10.heap.size := hb10.size
    have XA10 := hid (XA9.out.later hb10)
    have XX10 := hid (XX9.out.later hb10)
    have XY10 := hid (XY9.out.later hb10)
    have XM10 := hid (XM9.out.later hb10)
    have D10 := hid (D9.out.later hb10)
    have F10 := hid (F9.out.later hb10)
    have U10 := hid (U9.out.later hb10)
    have V10 := hid (V9.out.later hb10)
    have G10 := hid (G9.out.later hb10)
    have P10 := hid (P9.out.later hb10)
    clear XA9 XX9 XY9 XM9 D9 F9 U9 V9 G9 P9
    have J10 := hid (hF1)
    have Q10 := hid (hF2)
    clear hb10 hF1 hF2
    have a0 := XA10.out.c 0 rfl
    have af0 := XA10.out.f 0 rfl
    have a1 := XA10.out.c 1 rfl
    have af1 := XA10.out.f 1 rfl
    have a2 := XA10.out.c 2 rfl
    have af2 := XA10.out.f 2 rfl
    have az := XA10.out.size
    have x0 := XX10.out.c 0 rfl
    have xf0 := XX10.out.f 0 rfl
    have x1 := XX10.out.c 1 rfl
    have xf1 := XX10.out.f 1 rfl
    have x2 := XX10.out.c 2 rfl
    have xf2 := XX10.out.f 2 rfl
    have xz := XX10.out.size
    have y0 := XY10.out.c 0 rfl
    have yf0 := XY10.out.f 0 rfl
    have y1 := XY10.out.c 1 rfl
    have yf1 := XY10.out.f 1 rfl
    have y2 := XY10.out.c 2 rfl
    have yf2 := XY10.out.f 2 rfl
    have yz := XY10.out.size
    have m0 := XM10.out.c 0 rfl
    have mf0 := XM10.out.f 0 rfl
    have m1 := XM10.out.c 1 rfl
    have mf1 := XM10.out.f 1 rfl
    have m2 := XM10.out.c 2 rfl
    have mf2 := XM10.out.f 2 rfl
    have mz := XM10.out.size
    obtain ⟨w11, hV⟩ : ∃ V, V = w10.alloc (.cells #[.int .i64 N, .int .i64 S, .slice o7 L2.length c7] 25) := ⟨_, rfl⟩
    have hz11 : w10.heap.size ≤ w11.heap.size := by rw [hV]; simp
    have hs11 : w.heap.size ≤ w11.heap.size := Nat.le_trans hs10 hz11
    have hB11 : Below w.heap.size w w11 := by rw [hV]; exact Below.allocS hB10 _
    have XA11 := hid (XA10.out.alloc (.cells #[.int .i64 N, .int .i64 S, .slice o7 L2.length c7] 25))
    rw [← hV] at XA11
    have XX11 := hid (XX10.out.alloc (.cells #[.int .i64 N, .int .i64 S, .slice o7 L2.length c7] 25))
    rw [← hV] at XX11
    have XY11 := hid (XY10.out.alloc (.cells #[.int .i64 N, .int .i64 S, .slice o7 L2.length c7] 25))
    rw [← hV] at XY11
    have XM11 := hid (XM10.out.alloc (.cells #[.int .i64 N, .int .i64 S, .slice o7 L2.length c7] 25))
    rw [← hV] at XM11
    have D11 := hid (D10.out.later (below1 w10 (.cells #[.int .i64 N, .int .i64 S, .slice o7 L2.length c7] 25)))
    rw [← hV] at D11
    have F11 := hid (F10.out.later (below1 w10 (.cells #[.int .i64 N, .int .i64 S, .slice o7 L2.length c7] 25)))
    rw [← hV] at F11
    have U11 := hid (U10.out.later (below1 w10 (.cells #[.int .i64 N, .int .i64 S, .slice o7 L2.length c7] 25)))
    rw [← hV] at U11
    have V11 := hid (V10.out.later (below1 w10 (.cells #[.int .i64 N, .int .i64 S, .slice o7 L2.length c7] 25)))
    rw [← hV] at V11
    have G11 := hid (G10.out.later (below1 w10 (.cells #[.int .i64 N, .int .i64 S, .slice o7 L2.length c7] 25)))
    rw [← hV] at G11
    have P11 := hid (P10.out.later (below1 w10 (.cells #[.int .i64 N, .int .i64 S, .slice o7 L2.length c7] 25)))
    rw [← hV] at P11
    have J11 := hid (J10.out.later (below1 w10 (.cells #[.int .i64 N, .int .i64 S, .slice o7 L2.length c7] 25)))
    rw [← hV] at J11
    have Q11 := hid (Q10.out.later (below1 w10 (.cells #[.int .i64 N, .int .i64 S, .slice o7 L2.length c7] 25)))
    rw [← hV] at Q11
    have H11 : Hid (w11 = w10.alloc (.cells #[.int .i64 N, .int .i64 S, .slice o7 L2.length c7] 25)) := hV
    clear hV XA10 XX10 XY10 XM10 D10 F10 U10 V10 G10 P10 J10 Q10
    have XT11 : Hid (Bx w11 w10.heap.size [.int .i64 N, .int .i64 S, .slice o7 L2.length c7]) := by rw [H11.out]; exact Bx.new [.int .i64 N, .int .i64 S, .slice o7 L2.length c7] _ rfl
    have hy11 : w10.heap.size < w11.heap.size := XT11.out.size
    go_upto_region 15 with fail
    clear a0 af0 a1 af1 a2 af2 az x0 xf0 x1 xf1 x2 xf2 xz y0 yf0 y1 yf1 y2 yf2 yz m0 mf0 m1 mf1 m2 mf2 mz
    rw [← H11.out]
    have a0 := XA11.out.c 0 rfl
    have af0 := XA11.out.f 0 rfl
    have a1 := XA11.out.c 1 rfl
    have af1 := XA11.out.f 1 rfl
    have a2 := XA11.out.c 2 rfl
    have af2 := XA11.out.f 2 rfl
    have az := XA11.out.size
    have x0 := XX11.out.c 0 rfl
    have xf0 := XX11.out.f 0 rfl
    have x1 := XX11.out.c 1 rfl
    have xf1 := XX11.out.f 1 rfl
    have x2 := XX11.out.c 2 rfl
    have xf2 := XX11.out.f 2 rfl
    have xz := XX11.out.size
    have y0 := XY11.out.c 0 rfl
    have yf0 := XY11.out.f 0 rfl
    have y1 := XY11.out.c 1 rfl
    have yf1 := XY11.out.f 1 rfl
    have y2 := XY11.out.c 2 rfl
    have yf2 := XY11.out.f 2 rfl
    have yz := XY11.out.size
    have m0 := XM11.out.c 0 rfl
    have mf0 := XM11.out.f 0 rfl
    have m1 := XM11.out.c 1 rfl
    have mf1 := XM11.out.f 1 rfl
    have m2 := XM11.out.c 2 rfl
    have mf2 := XM11.out.f 2 rfl
    have mz := XM11.out.size
    have t0 := XT11.out.c 0 rfl
    have tf0 := XT11.out.f 0 rfl
    have t1 := XT11.out.c 1 rfl
    have tf1 := XT11.out.f 1 rfl
    have t2 := XT11.out.c 2 rfl
    have tf2 := XT11.out.f 2 rfl
    have tz := XT11.out.size
    have HE : Hid (kI.Own w11.heap.size (w11.alloc (.cells #[] 3)) (.slice (some ⟨w11.heap.size, 0, none⟩) 0 0) []) := hid (Kind.Own.new kI _ w11 (Nat.le_refl _))
    have PE := hid (P11.out.later (below1 w11 (.cells #[] 3)))
    have QE := hid (Q11.out.later (below1 w11 (.cells #[] 3)))
    have hbE : Hid (Below w11.heap.size w11 (w11.alloc (.cells #[] 3))) := hid (below1 w11 (.cells #[] 3))
    go_wp2_with (first | (at_builtin; have _g := HO91; refine Kind.appG kI_ok w91 (by rfl) (.tmp 104) (.tmp 105) rfl w11.heap.size (.slice ao1 ([] ++ l1).length ca1) ([] ++ l1) rfl HO91.out (by have := hb91.out.size; omega) o8 l2 l2.length c8 rfl rfl _ Q91.out (by simp; omega) ?_; intro ao2 ca2 w92 hO92 hB92; have HO92 := hid hO92; have hb92 : Hid (Below w11.heap.size w11 w92) := hid (hb91.out.trans hB92); clear hO92 hB92) | (at_builtin; refine Kind.appG kI_ok (w11.alloc (.cells #[] 3)) (by rfl) (.tmp 102) (.tmp 103) rfl w11.heap.size (.slice (some ⟨w11.heap.size, 0, none⟩) 0 0) [] rfl HE.out (by simp) o6 l1 l1.length c6 rfl rfl _ PE.out (by simp; omega) ?_; intro ao1 ca1 w91 hO91 hB91; have HO91 := hid hO91; have hb91 : Hid (Below w11.heap.size w11 w91) := hid (hbE.out.trans hB91); have Q91 := hid (Q11.out.later hb91.out); clear hO91 hB91))
    clear a0 af0 a1 af1 a2 af2 az x0 xf0 x1 xf1 x2 xf2 xz y0 yf0 y1 yf1 y2 yf2 yz m0 mf0 m1 mf1 m2 mf2 mz t0 tf0 t1 tf1 t2 tf2 tz
    have hll : ([] ++ l1 ++ l2 : List Int) = l := by simpa using HAP.out
    have IN9 : kI.In w92.heap.size w92 ao2 l := by rw [← hll]; obtain ⟨go, qc, e, _, hz⟩ := HO92.out.in; simp only [Value.slice.injEq] at e; rw [e.1]; exact hz
    have hl12 : l1.length + l2.length = l.length := by have h := congrArg List.length HAP.out; simpa using h
    rw [hl12]
    clear hl12
    clear hll
    have hb92b := hb92.out
    clear hb92 hb91 HO91 HO92 Q91 QE PE HE hbE
    have hB92 := hB11.trans (hb92b.mono hB11.size)
    have hs92 : w.heap.size ≤ w92.heap.size := Nat.le_trans hs11 hb92b.size
    have hz92 : w11.heap.size ≤ w92.heap.size := hb92b.size
    have XA92 := hid (XA11.out.later hb92b)
    have XX92 := hid (XX11.out.later hb92b)
    have XY92 := hid (XY11.out.later hb92b)
    have XM92 := hid (XM11.out.later hb92b)
    have XT92 := hid (XT11.out.later hb92b)
    have D92 := hid (D11.out.later hb92b)
    have F92 := hid (F11.out.later hb92b)
    have U92 := hid (U11.out.later hb92b)
    have V92 := hid (V11.out.later hb92b)
    have G92 := hid (G11.out.later hb92b)
    have P92 := hid (P11.out.later hb92b)
    have J92 := hid (J11.out.later hb92b)
    have Q92 := hid (Q11.out.later hb92b)
    clear XA11 XX11 XY11 XM11 XT11 D11 F11 U11 V11 G11 P11 J11 Q11
    refine (sameInts_same ao2 o2 ca2 c2 l w92 (by omega) IN9 U92.out).mono ?_
    rintro e w93 ⟨rfl, hb93⟩
    have hB93 := hB92.trans (hb93.mono hB92.size)
    have hs93 : w.heap.size ≤ w93.heap.size := Nat.le_trans hs92 hb93.size
    have hz93 : w92.heap.size ≤ w93.heap.size := hb93.size
    have XA93 := hid (XA92.out.later hb93)
    have XX93 := hid (XX92.out.later hb93)
    have XY93 := hid (XY92.out.later hb93)
    have XM93 := hid (XM92.out.later hb93)
    have XT93 := hid (XT92.out.later hb93)
    have D93 := hid (D92.out.later hb93)
    have F93 := hid (F92.out.later hb93)
    have U93 := hid (U92.out.later hb93)
    have V93 := hid (V92.out.later hb93)
    have G93 := hid (G92.out.later hb93)
    have P93 := hid (P92.out.later hb93)
    have J93 := hid (J92.out.later hb93)
    have Q93 := hid (Q92.out.later hb93)
    clear XA92 XX92 XY92 XM92 XT92 D92 F92 U92 V92 G92 P92 J92 Q92
    clear hb93
    obtain ⟨nz, hnz⟩ : ∃ z, Old.nextI N S L = z := ⟨_, rfl⟩
    obtain ⟨nb, hnb⟩ : ∃ b, Old.nextB N S L = b := ⟨_, rfl⟩
    have hlt : nb = true → N < nz := fun e => by rw [← hnz]; exact next_late HLATE.out (by rw [hnb, e])
    have HNZ := hid hnz
    have HNB := hid hnb
    clear hnz hnb
    have a0 := XA93.out.c 0 rfl
    have af0 := XA93.out.f 0 rfl
    have a1 := XA93.out.c 1 rfl
    have af1 := XA93.out.f 1 rfl
    have a2 := XA93.out.c 2 rfl
    have af2 := XA93.out.f 2 rfl
    have az := XA93.out.size
    have x0 := XX93.out.c 0 rfl
    have xf0 := XX93.out.f 0 rfl
    have x1 := XX93.out.c 1 rfl
    have xf1 := XX93.out.f 1 rfl
    have x2 := XX93.out.c 2 rfl
    have xf2 := XX93.out.f 2 rfl
    have xz := XX93.out.size
    have y0 := XY93.out.c 0 rfl
    have yf0 := XY93.out.f 0 rfl
    have y1 := XY93.out.c 1 rfl
    have yf1 := XY93.out.f 1 rfl
    have y2 := XY93.out.c 2 rfl
    have yf2 := XY93.out.f 2 rfl
    have yz := XY93.out.size
    have m0 := XM93.out.c 0 rfl
    have mf0 := XM93.out.f 0 rfl
    have m1 := XM93.out.c 1 rfl
    have mf1 := XM93.out.f 1 rfl
    have m2 := XM93.out.c 2 rfl
    have mf2 := XM93.out.f 2 rfl
    have mz := XM93.out.size
    have t0 := XT93.out.c 0 rfl
    have tf0 := XT93.out.f 0 rfl
    have t1 := XT93.out.c 1 rfl
    have tf1 := XT93.out.f 1 rfl
    have t2 := XT93.out.c 2 rfl
    have tf2 := XT93.out.f 2 rfl
    have tz := XT93.out.size
    go_wp2_with fail
    clear a0 af0 a1 af1 a2 af2 az x0 xf0 x1 xf1 x2 xf2 xz y0 yf0 y1 yf1 y2 yf2 yz m0 mf0 m1 mf1 m2 mf2 mz t0 tf0 t1 tf1 t2 tf2 tz
    refine (implNext_as N S o1 c1 L nz nb w93 (by omega) hc1 F93.out HNZ.out HNB.out).mono ?_
    rintro e w94 ⟨rfl, hb94⟩
    have hB94 := hB93.trans (hb94.mono hB93.size)
    have hs94 : w.heap.size ≤ w94.heap.size := Nat.le_trans hs93 hb94.size
    have hz94 : w93.heap.size ≤ w94.heap.size := hb94.size
    have XA94 := hid (XA93.out.later hb94)
    have XX94 := hid (XX93.out.later hb94)
    have XY94 := hid (XY93.out.later hb94)
    have XM94 := hid (XM93.out.later hb94)
    have XT94 := hid (XT93.out.later hb94)
    have D94 := hid (D93.out.later hb94)
    have F94 := hid (F93.out.later hb94)
    have U94 := hid (U93.out.later hb94)
    have V94 := hid (V93.out.later hb94)
    have G94 := hid (G93.out.later hb94)
    have P94 := hid (P93.out.later hb94)
    have J94 := hid (J93.out.later hb94)
    have Q94 := hid (Q93.out.later hb94)
    clear XA93 XX93 XY93 XM93 XT93 D93 F93 U93 V93 G93 P93 J93 Q93
    clear hb94
    cases nb
    · have a0 := XA94.out.c 0 rfl
      have af0 := XA94.out.f 0 rfl
      have a1 := XA94.out.c 1 rfl
      have af1 := XA94.out.f 1 rfl
      have a2 := XA94.out.c 2 rfl
      have af2 := XA94.out.f 2 rfl
      have az := XA94.out.size
      have x0 := XX94.out.c 0 rfl
      have xf0 := XX94.out.f 0 rfl
      have x1 := XX94.out.c 1 rfl
      have xf1 := XX94.out.f 1 rfl
      have x2 := XX94.out.c 2 rfl
      have xf2 := XX94.out.f 2 rfl
      have xz := XX94.out.size
      have y0 := XY94.out.c 0 rfl
      have yf0 := XY94.out.f 0 rfl
      have y1 := XY94.out.c 1 rfl
      have yf1 := XY94.out.f 1 rfl
      have y2 := XY94.out.c 2 rfl
      have yf2 := XY94.out.f 2 rfl
      have yz := XY94.out.size
      have m0 := XM94.out.c 0 rfl
      have mf0 := XM94.out.f 0 rfl
      have m1 := XM94.out.c 1 rfl
      have mf1 := XM94.out.f 1 rfl
      have m2 := XM94.out.c 2 rfl
      have mf2 := XM94.out.f 2 rfl
      have mz := XM94.out.size
      have t0 := XT94.out.c 0 rfl
      have tf0 := XT94.out.f 0 rfl
      have t1 := XT94.out.c 1 rfl
      have tf1 := XT94.out.f 1 rfl
      have t2 := XT94.out.c 2 rfl
      have tf2 := XT94.out.f 2 rfl
      have tz := XT94.out.size
      go_wp2
      go_ret
      exact ⟨rfl, hB94⟩
    · have hgt : decide (N < nz) = true := by simpa using hlt rfl
      have a0 := XA94.out.c 0 rfl
      have af0 := XA94.out.f 0 rfl
      have a1 := XA94.out.c 1 rfl
      have af1 := XA94.out.f 1 rfl
      have a2 := XA94.out.c 2 rfl
      have af2 := XA94.out.f 2 rfl
      have az := XA94.out.size
      have x0 := XX94.out.c 0 rfl
      have xf0 := XX94.out.f 0 rfl
      have x1 := XX94.out.c 1 rfl
      have xf1 := XX94.out.f 1 rfl
      have x2 := XX94.out.c 2 rfl
      have xf2 := XX94.out.f 2 rfl
      have xz := XX94.out.size
      have y0 := XY94.out.c 0 rfl
      have yf0 := XY94.out.f 0 rfl
      have y1 := XY94.out.c 1 rfl
      have yf1 := XY94.out.f 1 rfl
      have y2 := XY94.out.c 2 rfl
      have yf2 := XY94.out.f 2 rfl
      have yz := XY94.out.size
      have m0 := XM94.out.c 0 rfl
      have mf0 := XM94.out.f 0 rfl
      have m1 := XM94.out.c 1 rfl
      have mf1 := XM94.out.f 1 rfl
      have m2 := XM94.out.c 2 rfl
      have mf2 := XM94.out.f 2 rfl
      have mz := XM94.out.size
      have t0 := XT94.out.c 0 rfl
      have tf0 := XT94.out.f 0 rfl
      have t1 := XT94.out.c 1 rfl
      have tf1 := XT94.out.f 1 rfl
      have t2 := XT94.out.c 2 rfl
      have tf2 := XT94.out.f 2 rfl
      have tz := XT94.out.size
      go_wp2
      go_ret
      exact ⟨rfl, hB94⟩
end Go.Proofs.Ytpbgkkemaioidaa
