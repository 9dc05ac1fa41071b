
/- The law of groups, rooms and scopes: it returns true. No conditions but those written. -/
import Derived.Test.YtdgnolpimmdgjaaPXxXy
namespace Go.Proofs.Ytdgnolpimmdgjaa
open Go.RowKit

set_option maxRecDepth 100000 in
set_option maxHeartbeats 32000000 in
theorem lawTog (co : Option Addr) (cap : Nat) (bs : List Int) (mo : Option Addr) (mcap : Nat) (ms : List Int) (w : World) (hl : bs.length ≤ 9223372036854775807) (hb : BytesIn w.heap.size w co bs) (hml : ms.length ≤ 9223372036854775807) (hm : BytesIn w.heap.size w mo ms) :
    Calls Try.prog 3 #[.slice co bs.length cap, .slice mo ms.length mcap] w fun e w' => e = .returned (.bool true) ∧ Below w.heap.size w w' := by
  by_cases hbig : 1048576 < wrap64 ((bs.length : Int) + (ms.length : Int))
  · go_enter Try.func3, Try.ntmps3
    go_wp2
    go_ret
    exact ⟨rfl, Below.refl _ _⟩
  have hB0 : Below w.heap.size w w := Below.refl _ _
  have hs0 : w.heap.size ≤ w.heap.size := Nat.le_refl _
  go_enter Try.func3, Try.ntmps3
  go_wp2_with fail
  refine (drawAdd_any co cap bs w hl hb).mono ?_
  rintro e w1 ⟨⟨cnt, ao, c, q, iv, rfl, hq10, hD⟩, hb1⟩
  have hB1 := hB0.trans (hb1.mono hB0.size)
  have hs1 : w.heap.size ≤ w1.heap.size := Nat.le_trans hs0 hb1.size
  have hz1 : w.heap.size ≤ w1.heap.size := hb1.size
  have D1 := hid (hD)
  clear hb1 hD
  obtain ⟨Gc, Gq, Gw, Gr, hR⟩ : ∃ Gc Gq Gw Gr, addR cnt q iv = (Gc, Gq, Gw, Gr) := ⟨_, _, _, _, rfl⟩
  have HR := hid hR
  have hq := addR_short (cnt := cnt) (q := q) (k := iv) (by omega)
  rw [hR] at hq
  dsimp only at hq
  clear hR
  obtain ⟨w2, hV⟩ : ∃ V, V = w1.alloc (.cells #[.int .i64 cnt, .slice ao q.length c] 25) := ⟨_, rfl⟩
  have hz2 : w1.heap.size ≤ w2.heap.size := by rw [hV]; simp
  have hs2 : w.heap.size ≤ w2.heap.size := Nat.le_trans hs1 hz2
  have hB2 : Below w.heap.size w w2 := by rw [hV]; exact Below.allocS hB1 _
  have D2 := hid (D1.out.later (below1 w1 (.cells #[.int .i64 cnt, .slice ao q.length c] 25)))
  rw [← hV] at D2
  have H2 : Hid (w2 = w1.alloc (.cells #[.int .i64 cnt, .slice ao q.length c] 25)) := hV
  clear hV D1
  have XA2 : Hid (Bx w2 w1.heap.size [.int .i64 cnt, .slice ao q.length c]) := by rw [H2.out]; exact Bx.new [.int .i64 cnt, .slice ao q.length c] _ rfl
  have hy2 : w1.heap.size < w2.heap.size := XA2.out.size
  go_wp2_with fail
  rw [← H2.out]
  refine (implAdd_as cnt ao c q iv Gc Gq Gw Gr w2 (by omega) D2.out.in HR.out).mono ?_
  rintro e w3 ⟨⟨o1, c1, o2, c2, rfl, hF1, hF2⟩, hb3⟩
  have hB3 := hB2.trans (hb3.mono hB2.size)
  have hs3 : w.heap.size ≤ w3.heap.size := Nat.le_trans hs2 hb3.size
  have hz3 : w2.heap.size ≤ w3.heap.size := hb3.size
  have XA3 := hid (XA2.out.later hb3)
  have D3 := hid (D2.out.later hb3)
  clear XA2 D2
  have F3 := hid (hF1)
  have U3 := hid (hF2)
  clear hb3 hF1 hF2
  have a0 := XA3.out.c 0 rfl
  have af0 := XA3.out.f 0 rfl
  have a1 := XA3.out.c 1 rfl
  have af1 := XA3.out.f 1 rfl
  have az := XA3.out.size
  obtain ⟨w4, hV⟩ : ∃ V, V = w3.alloc (.cells #[.int .i64 Gc, .slice o1 Gq.length c1] 25) := ⟨_, rfl⟩
  have hz4 : w3.heap.size ≤ w4.heap.size := by rw [hV]; simp
  have hs4 : w.heap.size ≤ w4.heap.size := Nat.le_trans hs3 hz4
  have hB4 : Below w.heap.size w w4 := by rw [hV]; exact Below.allocS hB3 _
  have XA4 := hid (XA3.out.alloc (.cells #[.int .i64 Gc, .slice o1 Gq.length c1] 25))
  rw [← hV] at XA4
  have D4 := hid (D3.out.later (below1 w3 (.cells #[.int .i64 Gc, .slice o1 Gq.length c1] 25)))
  rw [← hV] at D4
  have F4 := hid (F3.out.later (below1 w3 (.cells #[.int .i64 Gc, .slice o1 Gq.length c1] 25)))
  rw [← hV] at F4
  have U4 := hid (U3.out.later (below1 w3 (.cells #[.int .i64 Gc, .slice o1 Gq.length c1] 25)))
  rw [← hV] at U4
  have H4 : Hid (w4 = w3.alloc (.cells #[.int .i64 Gc, .slice o1 Gq.length c1] 25)) := hV
  clear hV XA3 D3 F3 U3
  have XX4 : Hid (Bx w4 w3.heap.size [.int .i64 Gc, .slice o1 Gq.length c1]) := by rw [H4.out]; exact Bx.new [.int .i64 Gc, .slice o1 Gq.length c1] _ rfl
  have hy4 : w3.heap.size < w4.heap.size := XX4.out.size
  go_wp2_with fail
  clear a0 af0 a1 af1 az
  rw [← H4.out]
  refine (specAdd_as cnt ao c q iv Gc Gq Gw Gr w4 (by omega) D4.out.cap D4.out.no D4.out.in HR.out).mono ?_
  rintro e w5 ⟨⟨o3, c3, o4, c4, rfl, hF1, hF2⟩, hb5⟩
  have hB5 := hB4.trans (hb5.mono hB4.size)
  have hs5 : w.heap.size ≤ w5.heap.size := Nat.le_trans hs4 hb5.size
  have hz5 : w4.heap.size ≤ w5.heap.size := hb5.size
  have XA5 := hid (XA4.out.later hb5)
  have XX5 := hid (XX4.out.later hb5)
  have D5 := hid (D4.out.later hb5)
  have F5 := hid (F4.out.later hb5)
  have U5 := hid (U4.out.later hb5)
  clear XA4 XX4 D4 F4 U4
  have V5 := hid (hF2)
  clear hb5 hF1 hF2
  have a0 := XA5.out.c 0 rfl
  have af0 := XA5.out.f 0 rfl
  have a1 := XA5.out.c 1 rfl
  have af1 := XA5.out.f 1 rfl
  have az := XA5.out.size
  have x0 := XX5.out.c 0 rfl
  have xf0 := XX5.out.f 0 rfl
  have x1 := XX5.out.c 1 rfl
  have xf1 := XX5.out.f 1 rfl
  have xz := XX5.out.size
  obtain ⟨w6, hV⟩ : ∃ V, V = w5.alloc (.cells #[.int .i64 Gc, .slice o3 Gq.length c3] 25) := ⟨_, rfl⟩
  have hz6 : w5.heap.size ≤ w6.heap.size := by rw [hV]; simp
  have hs6 : w.heap.size ≤ w6.heap.size := Nat.le_trans hs5 hz6
  have hB6 : Below w.heap.size w w6 := by rw [hV]; exact Below.allocS hB5 _
  have XA6 := hid (XA5.out.alloc (.cells #[.int .i64 Gc, .slice o3 Gq.length c3] 25))
  rw [← hV] at XA6
  have XX6 := hid (XX5.out.alloc (.cells #[.int .i64 Gc, .slice o3 Gq.length c3] 25))
  rw [← hV] at XX6
  have D6 := hid (D5.out.later (below1 w5 (.cells #[.int .i64 Gc, .slice o3 Gq.length c3] 25)))
  rw [← hV] at D6
  have F6 := hid (F5.out.later (below1 w5 (.cells #[.int .i64 Gc, .slice o3 Gq.length c3] 25)))
  rw [← hV] at F6
  have U6 := hid (U5.out.later (below1 w5 (.cells #[.int .i64 Gc, .slice o3 Gq.length c3] 25)))
  rw [← hV] at U6
  have V6 := hid (V5.out.later (below1 w5 (.cells #[.int .i64 Gc, .slice o3 Gq.length c3] 25)))
  rw [← hV] at V6
  have H6 : Hid (w6 = w5.alloc (.cells #[.int .i64 Gc, .slice o3 Gq.length c3] 25)) := hV
  clear hV XA5 XX5 D5 F5 U5 V5
  have XY6 : Hid (Bx w6 w5.heap.size [.int .i64 Gc, .slice o3 Gq.length c3]) := by rw [H6.out]; exact Bx.new [.int .i64 Gc, .slice o3 Gq.length c3] _ rfl
  have hy6 : w5.heap.size < w6.heap.size := XY6.out.size
  have hce : (Gr != Gr) = false := by simp
  go_wp2_with fail
  clear a0 af0 a1 af1 az x0 xf0 x1 xf1 xz
  rw [← H6.out]
  refine (sameInts_same o2 o4 c2 c4 Gw w6 (by omega) U6.out.in V6.out.in).mono ?_
  rintro e w7 ⟨rfl, hb7⟩
  have hB7 := hB6.trans (hb7.mono hB6.size)
  have hs7 : w.heap.size ≤ w7.heap.size := Nat.le_trans hs6 hb7.size
  have hz7 : w6.heap.size ≤ w7.heap.size := hb7.size
  have XA7 := hid (XA6.out.later hb7)
  have XX7 := hid (XX6.out.later hb7)
  have XY7 := hid (XY6.out.later hb7)
  have D7 := hid (D6.out.later hb7)
  have F7 := hid (F6.out.later hb7)
  have U7 := hid (U6.out.later hb7)
  have V7 := hid (V6.out.later hb7)
  clear XA6 XX6 XY6 D6 F6 U6 V6
  clear hb7
  by_cases hG0 : Gr = 0
  · subst hG0
    have hgd := addR_good (cnt := cnt) (q := q) (k := iv) (by rw [HR.out])
    rw [HR.out] at hgd
    dsimp only at hgd
    have HG := hid hgd.1
    have HE := hid hgd.2
    clear hgd
    have a0 := XA7.out.c 0 rfl
    have af0 := XA7.out.f 0 rfl
    have a1 := XA7.out.c 1 rfl
    have af1 := XA7.out.f 1 rfl
    have az := XA7.out.size
    have x0 := XX7.out.c 0 rfl
    have xf0 := XX7.out.f 0 rfl
    have x1 := XX7.out.c 1 rfl
    have xf1 := XX7.out.f 1 rfl
    have xz := XX7.out.size
    have y0 := XY7.out.c 0 rfl
    have yf0 := XY7.out.f 0 rfl
    have y1 := XY7.out.c 1 rfl
    have yf1 := XY7.out.f 1 rfl
    have yz := XY7.out.size
    go_wp2_with fail
    clear a0 af0 a1 af1 az x0 xf0 x1 xf1 xz y0 yf0 y1 yf1 yz
    refine (implGood_is Gc o1 c1 Gq w7 true (by omega) F7.out.in HG.out).mono ?_
    rintro e w8 ⟨rfl, hb8⟩
    have hB8 := hB7.trans (hb8.mono hB7.size)
    have hs8 : w.heap.size ≤ w8.heap.size := Nat.le_trans hs7 hb8.size
    have hz8 : w7.heap.size ≤ w8.heap.size := hb8.size
    have XA8 := hid (XA7.out.later hb8)
    have XX8 := hid (XX7.out.later hb8)
    have XY8 := hid (XY7.out.later hb8)
    have D8 := hid (D7.out.later hb8)
    have F8 := hid (F7.out.later hb8)
    have U8 := hid (U7.out.later hb8)
    have V8 := hid (V7.out.later hb8)
    clear XA7 XX7 XY7 D7 F7 U7 V7
    clear hb8
    by_cases hGc : Gc = 0
    · as_aux_lemma =>
        have EQ := hid (HE.out hGc)
        have hGc1 : (Gc == 0) = true := by simpa using hGc
        have HGc := hid hGc
        clear hGc
        have a0 := XA8.out.c 0 rfl
        have af0 := XA8.out.f 0 rfl
        have a1 := XA8.out.c 1 rfl
        have af1 := XA8.out.f 1 rfl
        have az := XA8.out.size
        have x0 := XX8.out.c 0 rfl
        have xf0 := XX8.out.f 0 rfl
        have x1 := XX8.out.c 1 rfl
        have xf1 := XX8.out.f 1 rfl
        have xz := XX8.out.size
        have y0 := XY8.out.c 0 rfl
        have yf0 := XY8.out.f 0 rfl
        have y1 := XY8.out.c 1 rfl
        have yf1 := XY8.out.f 1 rfl
        have yz := XY8.out.size
        go_wp2_with fail
        clear a0 af0 a1 af1 az x0 xf0 x1 xf1 xz y0 yf0 y1 yf1 yz
        refine (sameInts_eq o2 ao c2 c Gw q w8 (by omega) EQ.out U8.out.in D8.out.in).mono ?_
        rintro e w9 ⟨rfl, hb9⟩
        have hB9 := hB8.trans (hb9.mono hB8.size)
        have hs9 : w.heap.size ≤ w9.heap.size := Nat.le_trans hs8 hb9.size
        have hz9 : w8.heap.size ≤ w9.heap.size := hb9.size
        have XA9 := hid (XA8.out.later hb9)
        have XX9 := hid (XX8.out.later hb9)
        have XY9 := hid (XY8.out.later hb9)
        have D9 := hid (D8.out.later hb9)
        have F9 := hid (F8.out.later hb9)
        have U9 := hid (U8.out.later hb9)
        have V9 := hid (V8.out.later hb9)
        clear XA8 XX8 XY8 D8 F8 U8 V8
        clear hb9
        have a0 := XA9.out.c 0 rfl
        have af0 := XA9.out.f 0 rfl
        have a1 := XA9.out.c 1 rfl
        have af1 := XA9.out.f 1 rfl
        have az := XA9.out.size
        have x0 := XX9.out.c 0 rfl
        have xf0 := XX9.out.f 0 rfl
        have x1 := XX9.out.c 1 rfl
        have xf1 := XX9.out.f 1 rfl
        have xz := XX9.out.size
        have y0 := XY9.out.c 0 rfl
        have yf0 := XY9.out.f 0 rfl
        have y1 := XY9.out.c 1 rfl
        have yf1 := XY9.out.f 1 rfl
        have yz := XY9.out.size
        go_wp2_with fail
        clear a0 af0 a1 af1 az x0 xf0 x1 xf1 xz y0 yf0 y1 yf1 yz
        clear XA9 XX9 XY9 D9 F9 U9 V9
        refine (drawGive_any mo mcap ms w9 hml (hm.later hB9 hB9.size)).mono ?_
        rintro e w10 ⟨⟨s1, s2, ro, rc, r, rv, rfl, hr40, hD⟩, hb10⟩
        have hB10 := hB9.trans (hb10.mono hB9.size)
        have hs10 : w.heap.size ≤ w10.heap.size := Nat.le_trans hs9 hb10.size
        have hz10 : w9.heap.size ≤ w10.heap.size := hb10.size
        have D10 := hid (hD)
        clear hb10 hD
        obtain ⟨Rs, Ru, Rq, Rw, Rc, hR2⟩ : ∃ Rs Ru Rq Rw Rc, giveR s1 s2 r rv = (Rs, Ru, Rq, Rw, Rc) := ⟨_, _, _, _, _, rfl⟩
        have HR2 := hid hR2
        have hq2 := giveR_short (s1 := s1) (s2 := s2) (l := r) (k := rv) (by omega)
        rw [hR2] at hq2
        dsimp only at hq2
        clear hR2
        obtain ⟨w11, hV⟩ : ∃ V, V = w10.alloc (.cells #[.int .i64 s1, .int .i64 s2, .slice ro r.length rc] 34) := ⟨_, rfl⟩
        have hz11 : w10.heap.size ≤ w11.heap.size := by rw [hV]; simp
        have hs11 : w.heap.size ≤ w11.heap.size := Nat.le_trans hs10 hz11
        have hB11 : Below w.heap.size w w11 := by rw [hV]; exact Below.allocS hB10 _
        have D11 := hid (D10.out.later (below1 w10 (.cells #[.int .i64 s1, .int .i64 s2, .slice ro r.length rc] 34)))
        rw [← hV] at D11
        have H11 : Hid (w11 = w10.alloc (.cells #[.int .i64 s1, .int .i64 s2, .slice ro r.length rc] 34)) := hV
        clear hV D10
        have XA11 : Hid (Bx w11 w10.heap.size [.int .i64 s1, .int .i64 s2, .slice ro r.length rc]) := by rw [H11.out]; exact Bx.new [.int .i64 s1, .int .i64 s2, .slice ro r.length rc] _ rfl
        have hy11 : w10.heap.size < w11.heap.size := XA11.out.size
        go_wp2_with fail
        rw [← H11.out]
        refine (implGive_as s1 s2 ro rc r rv Rs Ru Rq Rw Rc w11 (by omega) D11.out.in HR2.out).mono ?_
        rintro e w12 ⟨⟨o5, c5, o6, c6, rfl, hF1, hF2⟩, hb12⟩
        have hB12 := hB11.trans (hb12.mono hB11.size)
        have hs12 : w.heap.size ≤ w12.heap.size := Nat.le_trans hs11 hb12.size
        have hz12 : w11.heap.size ≤ w12.heap.size := hb12.size
        have XA12 := hid (XA11.out.later hb12)
        have D12 := hid (D11.out.later hb12)
        clear XA11 D11
        have F12 := hid (hF1)
        have U12 := hid (hF2)
        clear hb12 hF1 hF2
        have a0 := XA12.out.c 0 rfl
        have af0 := XA12.out.f 0 rfl
        have a1 := XA12.out.c 1 rfl
        have af1 := XA12.out.f 1 rfl
        have a2 := XA12.out.c 2 rfl
        have af2 := XA12.out.f 2 rfl
        have az := XA12.out.size
        obtain ⟨w13, hV⟩ : ∃ V, V = w12.alloc (.cells #[.int .i64 Rs, .int .i64 Ru, .slice o5 Rq.length c5] 34) := ⟨_, rfl⟩
        have hz13 : w12.heap.size ≤ w13.heap.size := by rw [hV]; simp
        have hs13 : w.heap.size ≤ w13.heap.size := Nat.le_trans hs12 hz13
        have hB13 : Below w.heap.size w w13 := by rw [hV]; exact Below.allocS hB12 _
        have XA13 := hid (XA12.out.alloc (.cells #[.int .i64 Rs, .int .i64 Ru, .slice o5 Rq.length c5] 34))
        rw [← hV] at XA13
        have D13 := hid (D12.out.later (below1 w12 (.cells #[.int .i64 Rs, .int .i64 Ru, .slice o5 Rq.length c5] 34)))
        rw [← hV] at D13
        have F13 := hid (F12.out.later (below1 w12 (.cells #[.int .i64 Rs, .int .i64 Ru, .slice o5 Rq.length c5] 34)))
        rw [← hV] at F13
        have U13 := hid (U12.out.later (below1 w12 (.cells #[.int .i64 Rs, .int .i64 Ru, .slice o5 Rq.length c5] 34)))
        rw [← hV] at U13
        have H13 : Hid (w13 = w12.alloc (.cells #[.int .i64 Rs, .int .i64 Ru, .slice o5 Rq.length c5] 34)) := hV
        clear hV XA12 D12 F12 U12
        have XX13 : Hid (Bx w13 w12.heap.size [.int .i64 Rs, .int .i64 Ru, .slice o5 Rq.length c5]) := by rw [H13.out]; exact Bx.new [.int .i64 Rs, .int .i64 Ru, .slice o5 Rq.length c5] _ rfl
        have hy13 : w12.heap.size < w13.heap.size := XX13.out.size
        go_wp2_with fail
        clear a0 af0 a1 af1 a2 af2 az
        rw [← H13.out]
        refine (specGive_as s1 s2 ro rc r rv Rs Ru Rq Rw Rc w13 (by omega) D13.out.no D13.out.in HR2.out).mono ?_
        rintro e w14 ⟨⟨o7, c7, o8, c8, rfl, hF1, hF2⟩, hb14⟩
        have hB14 := hB13.trans (hb14.mono hB13.size)
        have hs14 : w.heap.size ≤ w14.heap.size := Nat.le_trans hs13 hb14.size
        have hz14 : w13.heap.size ≤ w14.heap.size := hb14.size
        have XA14 := hid (XA13.out.later hb14)
        have XX14 := hid (XX13.out.later hb14)
        have D14 := hid (D13.out.later hb14)
        have F14 := hid (F13.out.later hb14)
        have U14 := hid (U13.out.later hb14)
        clear XA13 XX13 D13 F13 U13
        have V14 := hid (hF2)
        clear hb14 hF1 hF2
        have a0 := XA14.out.c 0 rfl
        have af0 := XA14.out.f 0 rfl
        have a1 := XA14.out.c 1 rfl
        have af1 := XA14.out.f 1 rfl
        have a2 := XA14.out.c 2 rfl
        have af2 := XA14.out.f 2 rfl
        have az := XA14.out.size
        have x0 := XX14.out.c 0 rfl
        have xf0 := XX14.out.f 0 rfl
        have x1 := XX14.out.c 1 rfl
        have xf1 := XX14.out.f 1 rfl
        have x2 := XX14.out.c 2 rfl
        have xf2 := XX14.out.f 2 rfl
        have xz := XX14.out.size
        obtain ⟨w15, hV⟩ : ∃ V, V = w14.alloc (.cells #[.int .i64 Rs, .int .i64 Ru, .slice o7 Rq.length c7] 34) := ⟨_, rfl⟩
        have hz15 : w14.heap.size ≤ w15.heap.size := by rw [hV]; simp
        have hs15 : w.heap.size ≤ w15.heap.size := Nat.le_trans hs14 hz15
        have hB15 : Below w.heap.size w w15 := by rw [hV]; exact Below.allocS hB14 _
        have XA15 := hid (XA14.out.alloc (.cells #[.int .i64 Rs, .int .i64 Ru, .slice o7 Rq.length c7] 34))
        rw [← hV] at XA15
        have XX15 := hid (XX14.out.alloc (.cells #[.int .i64 Rs, .int .i64 Ru, .slice o7 Rq.length c7] 34))
        rw [← hV] at XX15
        have D15 := hid (D14.out.later (below1 w14 (.cells #[.int .i64 Rs, .int .i64 Ru, .slice o7 Rq.length c7] 34)))
        rw [← hV] at D15
        have F15 := hid (F14.out.later (below1 w14 (.cells #[.int .i64 Rs, .int .i64 Ru, .slice o7 Rq.length c7] 34)))
        rw [← hV] at F15
        have U15 := hid (U14.out.later (below1 w14 (.cells #[.int .i64 Rs, .int .i64 Ru, .slice o7 Rq.length c7] 34)))
        rw [← hV] at U15
        have V15 := hid (V14.out.later (below1 w14 (.cells #[.int .i64 Rs, .int .i64 Ru, .slice o7 Rq.length c7] 34)))
        rw [← hV] at V15
        have H15 : Hid (w15 = w14.alloc (.cells #[.int .i64 Rs, .int .i64 Ru, .slice o7 Rq.length c7] 34)) := hV
        clear hV XA14 XX14 D14 F14 U14 V14
        have XY15 : Hid (Bx w15 w14.heap.size [.int .i64 Rs, .int .i64 Ru, .slice o7 Rq.length c7]) := by rw [H15.out]; exact Bx.new [.int .i64 Rs, .int .i64 Ru, .slice o7 Rq.length c7] _ rfl
        have hy15 : w14.heap.size < w15.heap.size := XY15.out.size
        have hce2 : (Rc != Rc) = false := by simp
        go_wp2_with fail
        clear a0 af0 a1 af1 a2 af2 az x0 xf0 x1 xf1 x2 xf2 xz
        rw [← H15.out]
        refine (sameInts_same o6 o8 c6 c8 Rw w15 (by omega) U15.out.in V15.out.in).mono ?_
        rintro e w16 ⟨rfl, hb16⟩
        have hB16 := hB15.trans (hb16.mono hB15.size)
        have hs16 : w.heap.size ≤ w16.heap.size := Nat.le_trans hs15 hb16.size
        have hz16 : w15.heap.size ≤ w16.heap.size := hb16.size
        have XA16 := hid (XA15.out.later hb16)
        have XX16 := hid (XX15.out.later hb16)
        have XY16 := hid (XY15.out.later hb16)
        have D16 := hid (D15.out.later hb16)
        have F16 := hid (F15.out.later hb16)
        have U16 := hid (U15.out.later hb16)
        have V16 := hid (V15.out.later hb16)
        clear XA15 XX15 XY15 D15 F15 U15 V15
        clear hb16
        by_cases hR0 : Rc = 0
        · as_aux_lemma =>
            subst hR0
            have hgd := giveR_good (s1 := s1) (s2 := s2) (l := r) (k := rv) (by rw [HR2.out])
            rw [HR2.out] at hgd
            dsimp only at hgd
            have HGR := hid hgd.1
            have hne : (((Rq.length : Int) + (Rw.length : Int)) != (r.length : Int)) = false := by have := hgd.2.1; simp; omega
            clear hgd
            have a0 := XA16.out.c 0 rfl
            have af0 := XA16.out.f 0 rfl
            have a1 := XA16.out.c 1 rfl
            have af1 := XA16.out.f 1 rfl
            have a2 := XA16.out.c 2 rfl
            have af2 := XA16.out.f 2 rfl
            have az := XA16.out.size
            have x0 := XX16.out.c 0 rfl
            have xf0 := XX16.out.f 0 rfl
            have x1 := XX16.out.c 1 rfl
            have xf1 := XX16.out.f 1 rfl
            have x2 := XX16.out.c 2 rfl
            have xf2 := XX16.out.f 2 rfl
            have xz := XX16.out.size
            have y0 := XY16.out.c 0 rfl
            have yf0 := XY16.out.f 0 rfl
            have y1 := XY16.out.c 1 rfl
            have yf1 := XY16.out.f 1 rfl
            have y2 := XY16.out.c 2 rfl
            have yf2 := XY16.out.f 2 rfl
            have yz := XY16.out.size
            go_wp2_with fail
            clear a0 af0 a1 af1 a2 af2 az x0 xf0 x1 xf1 x2 xf2 xz y0 yf0 y1 yf1 y2 yf2 yz
            refine (implGoodRoom_is Rs Ru o5 c5 Rq w16 true (by omega) F16.out.in HGR.out).mono ?_
            rintro e w17 ⟨rfl, hb17⟩
            have hB17 := hB16.trans (hb17.mono hB16.size)
            have hs17 : w.heap.size ≤ w17.heap.size := Nat.le_trans hs16 hb17.size
            have hz17 : w16.heap.size ≤ w17.heap.size := hb17.size
            have XA17 := hid (XA16.out.later hb17)
            have XX17 := hid (XX16.out.later hb17)
            have XY17 := hid (XY16.out.later hb17)
            have D17 := hid (D16.out.later hb17)
            have F17 := hid (F16.out.later hb17)
            have U17 := hid (U16.out.later hb17)
            have V17 := hid (V16.out.later hb17)
            clear XA16 XX16 XY16 D16 F16 U16 V16
            clear hb17
            have a0 := XA17.out.c 0 rfl
            have af0 := XA17.out.f 0 rfl
            have a1 := XA17.out.c 1 rfl
            have af1 := XA17.out.f 1 rfl
            have a2 := XA17.out.c 2 rfl
            have af2 := XA17.out.f 2 rfl
            have az := XA17.out.size
            have x0 := XX17.out.c 0 rfl
            have xf0 := XX17.out.f 0 rfl
            have x1 := XX17.out.c 1 rfl
            have xf1 := XX17.out.f 1 rfl
            have x2 := XX17.out.c 2 rfl
            have xf2 := XX17.out.f 2 rfl
            have xz := XX17.out.size
            have y0 := XY17.out.c 0 rfl
            have yf0 := XY17.out.f 0 rfl
            have y1 := XY17.out.c 1 rfl
            have yf1 := XY17.out.f 1 rfl
            have y2 := XY17.out.c 2 rfl
            have yf2 := XY17.out.f 2 rfl
            have yz := XY17.out.size
            go_wp2_with fail
            clear a0 af0 a1 af1 a2 af2 az x0 xf0 x1 xf1 x2 xf2 xz y0 yf0 y1 yf1 y2 yf2 yz
            clear XA17 XX17 XY17 D17 F17 U17 V17
            refine (drawCancel_any co cap bs w17 hl (hb.later hB17 hB17.size)).mono ?_
            rintro e w18 ⟨⟨so, sc, l, kv, rfl, hl30, hD⟩, hb18⟩
            have hB18 := hB17.trans (hb18.mono hB17.size)
            have hs18 : w.heap.size ≤ w18.heap.size := Nat.le_trans hs17 hb18.size
            have hz18 : w17.heap.size ≤ w18.heap.size := hb18.size
            have D18 := hid (hD)
            clear hb18 hD
            obtain ⟨Z, E, Cc, hR⟩ : ∃ Z E Cc, cancelR l kv = (Z, E, Cc) := ⟨_, _, _, rfl⟩
            have HC := hid hR
            have hq3 := cancelR_short (l := l) (k := kv) (by omega)
            rw [hR] at hq3
            dsimp only at hq3
            clear hR
            go_wp2_with fail
            refine (implCancel_as so sc l kv Z E Cc w18 (by omega) D18.out.in HC.out).mono ?_
            rintro e w19 ⟨⟨zo, zc, eo, ec, rfl, hF1, hF2⟩, hb19⟩
            have hB19 := hB18.trans (hb19.mono hB18.size)
            have hs19 : w.heap.size ≤ w19.heap.size := Nat.le_trans hs18 hb19.size
            have hz19 : w18.heap.size ≤ w19.heap.size := hb19.size
            have D19 := hid (D18.out.later hb19)
            clear D18
            have F19 := hid (hF1)
            have U19 := hid (hF2)
            clear hb19 hF1 hF2
            go_wp2_with fail
            refine (specCancel_as so sc l kv Z E Cc w19 (by omega) D19.out.no D19.out.in HC.out).mono ?_
            rintro e w20 ⟨⟨zo2, zc2, eo2, ec2, rfl, hF1, hF2⟩, hb20⟩
            have hB20 := hB19.trans (hb20.mono hB19.size)
            have hs20 : w.heap.size ≤ w20.heap.size := Nat.le_trans hs19 hb20.size
            have hz20 : w19.heap.size ≤ w20.heap.size := hb20.size
            have D20 := hid (D19.out.later hb20)
            have F20 := hid (F19.out.later hb20)
            have U20 := hid (U19.out.later hb20)
            clear D19 F19 U19
            have V20 := hid (hF2)
            clear hb20 hF1 hF2
            have hcc : (Cc != Cc) = false := by simp
            go_wp2_with fail
            refine (sameInts_same eo eo2 ec ec2 E w20 (by omega) U20.out.in V20.out.in).mono ?_
            rintro e w21 ⟨rfl, hb21⟩
            have hB21 := hB20.trans (hb21.mono hB20.size)
            have hs21 : w.heap.size ≤ w21.heap.size := Nat.le_trans hs20 hb21.size
            have hz21 : w20.heap.size ≤ w21.heap.size := hb21.size
            have D21 := hid (D20.out.later hb21)
            have F21 := hid (F20.out.later hb21)
            have U21 := hid (U20.out.later hb21)
            have V21 := hid (V20.out.later hb21)
            clear D20 F20 U20 V20
            clear hb21
            by_cases hC0 : Cc = 0
            case neg =>
              have hC1 : (Cc != 0) = true := by simpa using hC0
              go_wp2
              go_ret
              exact ⟨rfl, hB21⟩
            subst hC0
            have hgd := cancelR_good (l := l) (k := kv) (by rw [HC.out])
            rw [HC.out] at hgd
            dsimp only at hgd
            obtain ⟨hg1, hg2, hg3, hg4, hg5⟩ := hgd
            have HG1 := hid hg1
            have HG2 := hid hg2
            have HG3 := hid hg3
            have HG5 := hid hg5
            clear hg1 hg2 hg3 hg5
            go_wp2_with fail
            refine (implGoodScopes_is zo zc Z w21 true (by omega) F21.out.in HG1.out).mono ?_
            rintro e w22 ⟨rfl, hb22⟩
            have hB22 := hB21.trans (hb22.mono hB21.size)
            have hs22 : w.heap.size ≤ w22.heap.size := Nat.le_trans hs21 hb22.size
            have hz22 : w21.heap.size ≤ w22.heap.size := hb22.size
            have D22 := hid (D21.out.later hb22)
            have F22 := hid (F21.out.later hb22)
            have U22 := hid (U21.out.later hb22)
            have V22 := hid (V21.out.later hb22)
            clear D21 F21 U21 V21
            clear hb22
            go_wp2_with fail
            refine (has_is _ eo ec E kv w22 true (by omega) U22.out.in HG2.out).mono ?_
            rintro e w23 ⟨rfl, hw23⟩
            rw [hw23]
            clear hw23 w23
            go_wp2
            go_loopw [174] (fun i wr => ∃ j : Nat, j ≤ Z.length ∧ i = .int .i64 j ∧ Below w22.heap.size w22 wr) (fun i _ => Z.length - (intOf i).toNat)
            case atStart => exact ⟨0, Nat.zero_le _, rfl, Below.refl _ _⟩
            case round =>
              obtain ⟨j, hj, rfl, hbr⟩ := hrel
              by_cases hlt : j < Z.length
              case pos =>
                have hjl : j < l.length := by have := HG3.out; omega
                obtain ⟨zb, zf, rfl, hzb, hzc⟩ := kS_at F22.out.in hlt
                obtain ⟨lb, lf, rfl, hlb, hlc⟩ := kS_at D22.out.in hjl
                obtain ⟨⟨y1, y2, y3⟩, ey⟩ : ∃ y, y = el Z j := ⟨_, rfl⟩
                obtain ⟨⟨x1, x2, x3⟩, ex⟩ : ∃ x, x = el l j := ⟨_, rfl⟩
                obtain ⟨hb1, hb2, hb3⟩ := HG5.out j hjl
                rw [← ey, ← ex] at hb3
                rw [← ey] at hb1 hb2
                dsimp only at hb1 hb2 hb3
                obtain ⟨V, hV⟩ : ∃ V, V = wr.alloc (.cells #[.int .i64 y1, .int .i64 y2, .int .i64 y3] 48) := ⟨_, rfl⟩
                have hbV : Below w22.heap.size w22 V := by rw [hV]; exact hbr.alloc hbr.size _
                have XS : Bx V wr.heap.size [.int .i64 y1, .int .i64 y2, .int .i64 y3] := by rw [hV]; exact Bx.new [.int .i64 y1, .int .i64 y2, .int .i64 y3] _ rfl
                have q1 := (hbr.cell (p := ⟨zb, zf + j * 3, none⟩) hzb).trans (hzc j hlt).1
                have q2 := (hbr.cell (p := ⟨zb, zf + j * 3 + 1, none⟩) hzb).trans (hzc j hlt).2.1
                have q3 := (hbr.cell (p := ⟨zb, zf + j * 3 + 2, none⟩) hzb).trans (hzc j hlt).2.2
                rw [← ey] at q1 q2 q3
                have r3 := (hbV.cell (p := ⟨lb, lf + j * 3 + 2, none⟩) hlb).trans (hlc j hjl).2.2
                rw [← ex] at r3
                dsimp only at q1 q2 q3 r3
                have ZC := hid hzc
                have HLT := hid hlt
                have EY := hid ey
                clear hzc hlc ey ex
                have hltI : (j : Int) < (Z.length : Int) := by omega
                have hjlI : (j : Int) < (l.length : Int) := by omega
                have s0 := XS.c 0 rfl
                have s1 := XS.c 1 rfl
                have s2 := XS.c 2 rfl
                have sz := XS.size
                rw [hV] at s0 s1 s2 r3 sz
                by_cases hy1 : 0 ≤ y1
                case neg =>
                  have hy2 : decide (0 ≤ y1) = false := by simpa using hy1
                  clear hb2
                  by_cases hx3 : x3 = 0
                  · have hx4 : (x3 != 0) = false := by simpa using hx3
                    have HX3 := hid hx3
                    clear hx3 hb3
                    clear hV
                    go_wp2
                    go_quiet (fail)
                    go_wp2
                    go_roundw
                    case rel => exact ⟨j + 1, by omega, by go_num, below_draws (Below.alloc hbr hbr.size _) _⟩
                    case measure => simp [intOf]; omega
                  · have hx4 : (x3 != 0) = true := by simpa using hx3
                    have hy3 : (y3 != x3) = false := by simp; exact Classical.byContradiction fun e => hb3 ⟨hx3, e⟩
                    clear hb3
                    clear hV
                    go_wp2
                    go_quiet (fail)
                    go_wp2
                    go_roundw
                    case rel => exact ⟨j + 1, by omega, by go_num, below_draws (Below.alloc hbr hbr.size _) _⟩
                    case measure => simp [intOf]; omega
                have hy2 : decide (0 ≤ y1) = true := by simpa using hy1
                obtain ⟨u, rfl⟩ : ∃ u : Nat, y1 = u := ⟨y1.toNat, by omega⟩
                have hul : u < Z.length := by have := HLT.out; omega
                have huI : (u : Int) < (Z.length : Int) := by omega
                have v3 := (hbV.cell (p := ⟨zb, zf + u * 3 + 2, none⟩) hzb).trans (ZC.out u hul).2.2
                obtain ⟨tw, etw⟩ : ∃ t, t = (el Z u).2.2 := ⟨_, rfl⟩
                rw [← etw] at v3
                rw [Int.toNat_natCast, ← etw] at hb2
                rw [hV] at v3
                clear etw
                by_cases ht : tw = 0
                · have ht1 : (tw != 0) = false := by simpa using ht
                  clear hb2 ht
                  by_cases hx3 : x3 = 0
                  · have hx4 : (x3 != 0) = false := by simpa using hx3
                    have HX3 := hid hx3
                    clear hx3 hb3
                    clear hV
                    go_wp2
                    go_quiet (fail)
                    go_wp2
                    go_roundw
                    case rel => exact ⟨j + 1, by omega, by go_num, below_draws (Below.alloc hbr hbr.size _) _⟩
                    case measure => simp [intOf]; omega
                  · have hx4 : (x3 != 0) = true := by simpa using hx3
                    have hy3 : (y3 != x3) = false := by simp; exact Classical.byContradiction fun e => hb3 ⟨hx3, e⟩
                    clear hb3
                    clear hV
                    go_wp2
                    go_quiet (fail)
                    go_wp2
                    go_roundw
                    case rel => exact ⟨j + 1, by omega, by go_num, below_draws (Below.alloc hbr hbr.size _) _⟩
                    case measure => simp [intOf]; omega
                · have ht1 : (tw != 0) = true := by simpa using ht
                  have hy3z : (y3 == 0) = false := by simp; exact fun e => hb2 ⟨by omega, ht, e⟩
                  clear hb2
                  by_cases hx3 : x3 = 0
                  · have hx4 : (x3 != 0) = false := by simpa using hx3
                    have HX3 := hid hx3
                    clear hx3 hb3
                    clear hV
                    go_wp2
                    go_quiet (fail)
                    go_wp2
                    go_roundw
                    case rel => exact ⟨j + 1, by omega, by go_num, below_draws (Below.alloc hbr hbr.size _) _⟩
                    case measure => simp [intOf]; omega
                  · have hx4 : (x3 != 0) = true := by simpa using hx3
                    have hy3 : (y3 != x3) = false := by simp; exact Classical.byContradiction fun e => hb3 ⟨hx3, e⟩
                    clear hb3
                    clear hV
                    go_wp2
                    go_quiet (fail)
                    go_wp2
                    go_roundw
                    case rel => exact ⟨j + 1, by omega, by go_num, below_draws (Below.alloc hbr hbr.size _) _⟩
                    case measure => simp [intOf]; omega
              obtain rfl : j = Z.length := by omega
              go_wp2
              go_ret
              exact ⟨rfl, hB22.trans (hbr.mono hB22.size)⟩
        · as_aux_lemma =>
            have hR1 : (Rc == 0) = false := by simpa using hR0
            have a0 := XA16.out.c 0 rfl
            have af0 := XA16.out.f 0 rfl
            have a1 := XA16.out.c 1 rfl
            have af1 := XA16.out.f 1 rfl
            have a2 := XA16.out.c 2 rfl
            have af2 := XA16.out.f 2 rfl
            have az := XA16.out.size
            have x0 := XX16.out.c 0 rfl
            have xf0 := XX16.out.f 0 rfl
            have x1 := XX16.out.c 1 rfl
            have xf1 := XX16.out.f 1 rfl
            have x2 := XX16.out.c 2 rfl
            have xf2 := XX16.out.f 2 rfl
            have xz := XX16.out.size
            have y0 := XY16.out.c 0 rfl
            have yf0 := XY16.out.f 0 rfl
            have y1 := XY16.out.c 1 rfl
            have yf1 := XY16.out.f 1 rfl
            have y2 := XY16.out.c 2 rfl
            have yf2 := XY16.out.f 2 rfl
            have yz := XY16.out.size
            go_wp2_with fail
            clear a0 af0 a1 af1 a2 af2 az x0 xf0 x1 xf1 x2 xf2 xz y0 yf0 y1 yf1 y2 yf2 yz
            clear XA16 XX16 XY16 D16 F16 U16 V16
            refine (drawCancel_any co cap bs w16 hl (hb.later hB16 hB16.size)).mono ?_
            rintro e w17 ⟨⟨so, sc, l, kv, rfl, hl30, hD⟩, hb17⟩
            have hB17 := hB16.trans (hb17.mono hB16.size)
            have hs17 : w.heap.size ≤ w17.heap.size := Nat.le_trans hs16 hb17.size
            have hz17 : w16.heap.size ≤ w17.heap.size := hb17.size
            have D17 := hid (hD)
            clear hb17 hD
            obtain ⟨Z, E, Cc, hR⟩ : ∃ Z E Cc, cancelR l kv = (Z, E, Cc) := ⟨_, _, _, rfl⟩
            have HC := hid hR
            have hq3 := cancelR_short (l := l) (k := kv) (by omega)
            rw [hR] at hq3
            dsimp only at hq3
            clear hR
            go_wp2_with fail
            refine (implCancel_as so sc l kv Z E Cc w17 (by omega) D17.out.in HC.out).mono ?_
            rintro e w18 ⟨⟨zo, zc, eo, ec, rfl, hF1, hF2⟩, hb18⟩
            have hB18 := hB17.trans (hb18.mono hB17.size)
            have hs18 : w.heap.size ≤ w18.heap.size := Nat.le_trans hs17 hb18.size
            have hz18 : w17.heap.size ≤ w18.heap.size := hb18.size
            have D18 := hid (D17.out.later hb18)
            clear D17
            have F18 := hid (hF1)
            have U18 := hid (hF2)
            clear hb18 hF1 hF2
            go_wp2_with fail
            refine (specCancel_as so sc l kv Z E Cc w18 (by omega) D18.out.no D18.out.in HC.out).mono ?_
            rintro e w19 ⟨⟨zo2, zc2, eo2, ec2, rfl, hF1, hF2⟩, hb19⟩
            have hB19 := hB18.trans (hb19.mono hB18.size)
            have hs19 : w.heap.size ≤ w19.heap.size := Nat.le_trans hs18 hb19.size
            have hz19 : w18.heap.size ≤ w19.heap.size := hb19.size
            have D19 := hid (D18.out.later hb19)
            have F19 := hid (F18.out.later hb19)
            have U19 := hid (U18.out.later hb19)
            clear D18 F18 U18
            have V19 := hid (hF2)
            clear hb19 hF1 hF2
            have hcc : (Cc != Cc) = false := by simp
            go_wp2_with fail
            refine (sameInts_same eo eo2 ec ec2 E w19 (by omega) U19.out.in V19.out.in).mono ?_
            rintro e w20 ⟨rfl, hb20⟩
            have hB20 := hB19.trans (hb20.mono hB19.size)
            have hs20 : w.heap.size ≤ w20.heap.size := Nat.le_trans hs19 hb20.size
            have hz20 : w19.heap.size ≤ w20.heap.size := hb20.size
            have D20 := hid (D19.out.later hb20)
            have F20 := hid (F19.out.later hb20)
            have U20 := hid (U19.out.later hb20)
            have V20 := hid (V19.out.later hb20)
            clear D19 F19 U19 V19
            clear hb20
            by_cases hC0 : Cc = 0
            case neg =>
              have hC1 : (Cc != 0) = true := by simpa using hC0
              go_wp2
              go_ret
              exact ⟨rfl, hB20⟩
            subst hC0
            have hgd := cancelR_good (l := l) (k := kv) (by rw [HC.out])
            rw [HC.out] at hgd
            dsimp only at hgd
            obtain ⟨hg1, hg2, hg3, hg4, hg5⟩ := hgd
            have HG1 := hid hg1
            have HG2 := hid hg2
            have HG3 := hid hg3
            have HG5 := hid hg5
            clear hg1 hg2 hg3 hg5
            go_wp2_with fail
            refine (implGoodScopes_is zo zc Z w20 true (by omega) F20.out.in HG1.out).mono ?_
            rintro e w21 ⟨rfl, hb21⟩
            have hB21 := hB20.trans (hb21.mono hB20.size)
            have hs21 : w.heap.size ≤ w21.heap.size := Nat.le_trans hs20 hb21.size
            have hz21 : w20.heap.size ≤ w21.heap.size := hb21.size
            have D21 := hid (D20.out.later hb21)
            have F21 := hid (F20.out.later hb21)
            have U21 := hid (U20.out.later hb21)
            have V21 := hid (V20.out.later hb21)
            clear D20 F20 U20 V20
            clear hb21
            go_wp2_with fail
            refine (has_is _ eo ec E kv w21 true (by omega) U21.out.in HG2.out).mono ?_
            rintro e w22 ⟨rfl, hw22⟩
            rw [hw22]
            clear hw22 w22
            go_wp2
            go_loopw [174] (fun i wr => ∃ j : Nat, j ≤ Z.length ∧ i = .int .i64 j ∧ Below w21.heap.size w21 wr) (fun i _ => Z.length - (intOf i).toNat)
            case atStart => exact ⟨0, Nat.zero_le _, rfl, Below.refl _ _⟩
            case round =>
              obtain ⟨j, hj, rfl, hbr⟩ := hrel
              by_cases hlt : j < Z.length
              case pos =>
                have hjl : j < l.length := by have := HG3.out; omega
                obtain ⟨zb, zf, rfl, hzb, hzc⟩ := kS_at F21.out.in hlt
                obtain ⟨lb, lf, rfl, hlb, hlc⟩ := kS_at D21.out.in hjl
                obtain ⟨⟨y1, y2, y3⟩, ey⟩ : ∃ y, y = el Z j := ⟨_, rfl⟩
                obtain ⟨⟨x1, x2, x3⟩, ex⟩ : ∃ x, x = el l j := ⟨_, rfl⟩
                obtain ⟨hb1, hb2, hb3⟩ := HG5.out j hjl
                rw [← ey, ← ex] at hb3
                rw [← ey] at hb1 hb2
                dsimp only at hb1 hb2 hb3
                obtain ⟨V, hV⟩ : ∃ V, V = wr.alloc (.cells #[.int .i64 y1, .int .i64 y2, .int .i64 y3] 48) := ⟨_, rfl⟩
                have hbV : Below w21.heap.size w21 V := by rw [hV]; exact hbr.alloc hbr.size _
                have XS : Bx V wr.heap.size [.int .i64 y1, .int .i64 y2, .int .i64 y3] := by rw [hV]; exact Bx.new [.int .i64 y1, .int .i64 y2, .int .i64 y3] _ rfl
                have q1 := (hbr.cell (p := ⟨zb, zf + j * 3, none⟩) hzb).trans (hzc j hlt).1
                have q2 := (hbr.cell (p := ⟨zb, zf + j * 3 + 1, none⟩) hzb).trans (hzc j hlt).2.1
                have q3 := (hbr.cell (p := ⟨zb, zf + j * 3 + 2, none⟩) hzb).trans (hzc j hlt).2.2
                rw [← ey] at q1 q2 q3
                have r3 := (hbV.cell (p := ⟨lb, lf + j * 3 + 2, none⟩) hlb).trans (hlc j hjl).2.2
                rw [← ex] at r3
                dsimp only at q1 q2 q3 r3
                have ZC := hid hzc
                have HLT := hid hlt
                have EY := hid ey
                clear hzc hlc ey ex
                have hltI : (j : Int) < (Z.length : Int) := by omega
                have hjlI : (j : Int) < (l.length : Int) := by omega
                have s0 := XS.c 0 rfl
                have s1 := XS.c 1 rfl
                have s2 := XS.c 2 rfl
                have sz := XS.size
                rw [hV] at s0 s1 s2 r3 sz
                by_cases hy1 : 0 ≤ y1
                case neg =>
                  have hy2 : decide (0 ≤ y1) = false := by simpa using hy1
                  clear hb2
                  by_cases hx3 : x3 = 0
                  · have hx4 : (x3 != 0) = false := by simpa using hx3
                    have HX3 := hid hx3
                    clear hx3 hb3
                    clear hV
                    go_wp2
                    go_quiet (fail)
                    go_wp2
                    go_roundw
                    case rel => exact ⟨j + 1, by omega, by go_num, below_draws (Below.alloc hbr hbr.size _) _⟩
                    case measure => simp [intOf]; omega
                  · have hx4 : (x3 != 0) = true := by simpa using hx3
                    have hy3 : (y3 != x3) = false := by simp; exact Classical.byContradiction fun e => hb3 ⟨hx3, e⟩
                    clear hb3
                    clear hV
                    go_wp2
                    go_quiet (fail)
                    go_wp2
                    go_roundw
                    case rel => exact ⟨j + 1, by omega, by go_num, below_draws (Below.alloc hbr hbr.size _) _⟩
                    case measure => simp [intOf]; omega
                have hy2 : decide (0 ≤ y1) = true := by simpa using hy1
                obtain ⟨u, rfl⟩ : ∃ u : Nat, y1 = u := ⟨y1.toNat, by omega⟩
                have hul : u < Z.length := by have := HLT.out; omega
                have huI : (u : Int) < (Z.length : Int) := by omega
                have v3 := (hbV.cell (p := ⟨zb, zf + u * 3 + 2, none⟩) hzb).trans (ZC.out u hul).2.2
                obtain ⟨tw, etw⟩ : ∃ t, t = (el Z u).2.2 := ⟨_, rfl⟩
                rw [← etw] at v3
                rw [Int.toNat_natCast, ← etw] at hb2
                rw [hV] at v3
                clear etw
                by_cases ht : tw = 0
                · have ht1 : (tw != 0) = false := by simpa using ht
                  clear hb2 ht
                  by_cases hx3 : x3 = 0
                  · have hx4 : (x3 != 0) = false := by simpa using hx3
                    have HX3 := hid hx3
                    clear hx3 hb3
                    clear hV
                    go_wp2
                    go_quiet (fail)
                    go_wp2
                    go_roundw
                    case rel => exact ⟨j + 1, by omega, by go_num, below_draws (Below.alloc hbr hbr.size _) _⟩
                    case measure => simp [intOf]; omega
                  · have hx4 : (x3 != 0) = true := by simpa using hx3
                    have hy3 : (y3 != x3) = false := by simp; exact Classical.byContradiction fun e => hb3 ⟨hx3, e⟩
                    clear hb3
                    clear hV
                    go_wp2
                    go_quiet (fail)
                    go_wp2
                    go_roundw
                    case rel => exact ⟨j + 1, by omega, by go_num, below_draws (Below.alloc hbr hbr.size _) _⟩
                    case measure => simp [intOf]; omega
                · have ht1 : (tw != 0) = true := by simpa using ht
                  have hy3z : (y3 == 0) = false := by simp; exact fun e => hb2 ⟨by omega, ht, e⟩
                  clear hb2
                  by_cases hx3 : x3 = 0
                  · have hx4 : (x3 != 0) = false := by simpa using hx3
                    have HX3 := hid hx3
                    clear hx3 hb3
                    clear hV
                    go_wp2
                    go_quiet (fail)
                    go_wp2
                    go_roundw
                    case rel => exact ⟨j + 1, by omega, by go_num, below_draws (Below.alloc hbr hbr.size _) _⟩
                    case measure => simp [intOf]; omega
                  · have hx4 : (x3 != 0) = true := by simpa using hx3
                    have hy3 : (y3 != x3) = false := by simp; exact Classical.byContradiction fun e => hb3 ⟨hx3, e⟩
                    clear hb3
                    clear hV
                    go_wp2
                    go_quiet (fail)
                    go_wp2
                    go_roundw
                    case rel => exact ⟨j + 1, by omega, by go_num, below_draws (Below.alloc hbr hbr.size _) _⟩
                    case measure => simp [intOf]; omega
              obtain rfl : j = Z.length := by omega
              go_wp2
              go_ret
              exact ⟨rfl, hB21.trans (hbr.mono hB21.size)⟩
    · as_aux_lemma =>
        have hGc1 : (Gc == 0) = false := by simpa using hGc
        have a0 := XA8.out.c 0 rfl
        have af0 := XA8.out.f 0 rfl
        have a1 := XA8.out.c 1 rfl
        have af1 := XA8.out.f 1 rfl
        have az := XA8.out.size
        have x0 := XX8.out.c 0 rfl
        have xf0 := XX8.out.f 0 rfl
        have x1 := XX8.out.c 1 rfl
        have xf1 := XX8.out.f 1 rfl
        have xz := XX8.out.size
        have y0 := XY8.out.c 0 rfl
        have yf0 := XY8.out.f 0 rfl
        have y1 := XY8.out.c 1 rfl
        have yf1 := XY8.out.f 1 rfl
        have yz := XY8.out.size
        go_wp2_with fail
        clear a0 af0 a1 af1 az x0 xf0 x1 xf1 xz y0 yf0 y1 yf1 yz
        clear XA8 XX8 XY8 D8 F8 U8 V8
        refine (drawGive_any mo mcap ms w8 hml (hm.later hB8 hB8.size)).mono ?_
        rintro e w9 ⟨⟨s1, s2, ro, rc, r, rv, rfl, hr40, hD⟩, hb9⟩
        have hB9 := hB8.trans (hb9.mono hB8.size)
        have hs9 : w.heap.size ≤ w9.heap.size := Nat.le_trans hs8 hb9.size
        have hz9 : w8.heap.size ≤ w9.heap.size := hb9.size
        have D9 := hid (hD)
        clear hb9 hD
        obtain ⟨Rs, Ru, Rq, Rw, Rc, hR2⟩ : ∃ Rs Ru Rq Rw Rc, giveR s1 s2 r rv = (Rs, Ru, Rq, Rw, Rc) := ⟨_, _, _, _, _, rfl⟩
        have HR2 := hid hR2
        have hq2 := giveR_short (s1 := s1) (s2 := s2) (l := r) (k := rv) (by omega)
        rw [hR2] at hq2
        dsimp only at hq2
        clear hR2
        obtain ⟨w10, hV⟩ : ∃ V, V = w9.alloc (.cells #[.int .i64 s1, .int .i64 s2, .slice ro r.length rc] 34) := ⟨_, rfl⟩
        have hz10 : w9.heap.size ≤ w10.heap.size := by rw [hV]; simp
        have hs10 : w.heap.size ≤ w10.heap.size := Nat.le_trans hs9 hz10
        have hB10 : Below w.heap.size w w10 := by rw [hV]; exact Below.allocS hB9 _
        have D10 := hid (D9.out.later (below1 w9 (.cells #[.int .i64 s1, .int .i64 s2, .slice ro r.length rc] 34)))
        rw [← hV] at D10
        have H10 : Hid (w10 = w9.alloc (.cells #[.int .i64 s1, .int .i64 s2, .slice ro r.length rc] 34)) := hV
        clear hV D9
        have XA10 : Hid (Bx w10 w9.heap.size [.int .i64 s1, .int .i64 s2, .slice ro r.length rc]) := by rw [H10.out]; exact Bx.new [.int .i64 s1, .int .i64 s2, .slice ro r.length rc] _ rfl
        have hy10 : w9.heap.size < w10.heap.size := XA10.out.size
        go_wp2_with fail
        rw [← H10.out]
        refine (implGive_as s1 s2 ro rc r rv Rs Ru Rq Rw Rc w10 (by omega) D10.out.in HR2.out).mono ?_
        rintro e w11 ⟨⟨o5, c5, o6, c6, rfl, hF1, hF2⟩, hb11⟩
        have hB11 := hB10.trans (hb11.mono hB10.size)
        have hs11 : w.heap.size ≤ w11.heap.size := Nat.le_trans hs10 hb11.size
        have hz11 : w10.heap.size ≤ w11.heap.size := hb11.size
        have XA11 := hid (XA10.out.later hb11)
        have D11 := hid (D10.out.later hb11)
        clear XA10 D10
        have F11 := hid (hF1)
        have U11 := hid (hF2)
        clear hb11 hF1 hF2
        have a0 := XA11.out.c 0 rfl
        have af0 := XA11.out.f 0 rfl
        have a1 := XA11.out.c 1 rfl
        have af1 := XA11.out.f 1 rfl
        have a2 := XA11.out.c 2 rfl
        have af2 := XA11.out.f 2 rfl
        have az := XA11.out.size
        obtain ⟨w12, hV⟩ : ∃ V, V = w11.alloc (.cells #[.int .i64 Rs, .int .i64 Ru, .slice o5 Rq.length c5] 34) := ⟨_, rfl⟩
        have hz12 : w11.heap.size ≤ w12.heap.size := by rw [hV]; simp
        have hs12 : w.heap.size ≤ w12.heap.size := Nat.le_trans hs11 hz12
        have hB12 : Below w.heap.size w w12 := by rw [hV]; exact Below.allocS hB11 _
        have XA12 := hid (XA11.out.alloc (.cells #[.int .i64 Rs, .int .i64 Ru, .slice o5 Rq.length c5] 34))
        rw [← hV] at XA12
        have D12 := hid (D11.out.later (below1 w11 (.cells #[.int .i64 Rs, .int .i64 Ru, .slice o5 Rq.length c5] 34)))
        rw [← hV] at D12
        have F12 := hid (F11.out.later (below1 w11 (.cells #[.int .i64 Rs, .int .i64 Ru, .slice o5 Rq.length c5] 34)))
        rw [← hV] at F12
        have U12 := hid (U11.out.later (below1 w11 (.cells #[.int .i64 Rs, .int .i64 Ru, .slice o5 Rq.length c5] 34)))
        rw [← hV] at U12
        have H12 : Hid (w12 = w11.alloc (.cells #[.int .i64 Rs, .int .i64 Ru, .slice o5 Rq.length c5] 34)) := hV
        clear hV XA11 D11 F11 U11
        have XX12 : Hid (Bx w12 w11.heap.size [.int .i64 Rs, .int .i64 Ru, .slice o5 Rq.length c5]) := by rw [H12.out]; exact Bx.new [.int .i64 Rs, .int .i64 Ru, .slice o5 Rq.length c5] _ rfl
        have hy12 : w11.heap.size < w12.heap.size := XX12.out.size
        go_wp2_with fail
        clear a0 af0 a1 af1 a2 af2 az
        rw [← H12.out]
        refine (specGive_as s1 s2 ro rc r rv Rs Ru Rq Rw Rc w12 (by omega) D12.out.no D12.out.in HR2.out).mono ?_
        rintro e w13 ⟨⟨o7, c7, o8, c8, rfl, hF1, hF2⟩, hb13⟩
        have hB13 := hB12.trans (hb13.mono hB12.size)
        have hs13 : w.heap.size ≤ w13.heap.size := Nat.le_trans hs12 hb13.size
        have hz13 : w12.heap.size ≤ w13.heap.size := hb13.size
        have XA13 := hid (XA12.out.later hb13)
        have XX13 := hid (XX12.out.later hb13)
        have D13 := hid (D12.out.later hb13)
        have F13 := hid (F12.out.later hb13)
        have U13 := hid (U12.out.later hb13)
        clear XA12 XX12 D12 F12 U12
        have V13 := hid (hF2)
        clear hb13 hF1 hF2
        have a0 := XA13.out.c 0 rfl
        have af0 := XA13.out.f 0 rfl
        have a1 := XA13.out.c 1 rfl
        have af1 := XA13.out.f 1 rfl
        have a2 := XA13.out.c 2 rfl
        have af2 := XA13.out.f 2 rfl
        have az := XA13.out.size
        have x0 := XX13.out.c 0 rfl
        have xf0 := XX13.out.f 0 rfl
        have x1 := XX13.out.c 1 rfl
        have xf1 := XX13.out.f 1 rfl
        have x2 := XX13.out.c 2 rfl
        have xf2 := XX13.out.f 2 rfl
        have xz := XX13.out.size
        obtain ⟨w14, hV⟩ : ∃ V, V = w13.alloc (.cells #[.int .i64 Rs, .int .i64 Ru, .slice o7 Rq.length c7] 34) := ⟨_, rfl⟩
        have hz14 : w13.heap.size ≤ w14.heap.size := by rw [hV]; simp
        have hs14 : w.heap.size ≤ w14.heap.size := Nat.le_trans hs13 hz14
        have hB14 : Below w.heap.size w w14 := by rw [hV]; exact Below.allocS hB13 _
        have XA14 := hid (XA13.out.alloc (.cells #[.int .i64 Rs, .int .i64 Ru, .slice o7 Rq.length c7] 34))
        rw [← hV] at XA14
        have XX14 := hid (XX13.out.alloc (.cells #[.int .i64 Rs, .int .i64 Ru, .slice o7 Rq.length c7] 34))
        rw [← hV] at XX14
        have D14 := hid (D13.out.later (below1 w13 (.cells #[.int .i64 Rs, .int .i64 Ru, .slice o7 Rq.length c7] 34)))
        rw [← hV] at D14
        have F14 := hid (F13.out.later (below1 w13 (.cells #[.int .i64 Rs, .int .i64 Ru, .slice o7 Rq.length c7] 34)))
        rw [← hV] at F14
        have U14 := hid (U13.out.later (below1 w13 (.cells #[.int .i64 Rs, .int .i64 Ru, .slice o7 Rq.length c7] 34)))
        rw [← hV] at U14
        have V14 := hid (V13.out.later (below1 w13 (.cells #[.int .i64 Rs, .int .i64 Ru, .slice o7 Rq.length c7] 34)))
        rw [← hV] at V14
        have H14 : Hid (w14 = w13.alloc (.cells #[.int .i64 Rs, .int .i64 Ru, .slice o7 Rq.length c7] 34)) := hV
        clear hV XA13 XX13 D13 F13 U13 V13
        have XY14 : Hid (Bx w14 w13.heap.size [.int .i64 Rs, .int .i64 Ru, .slice o7 Rq.length c7]) := by rw [H14.out]; exact Bx.new [.int .i64 Rs, .int .i64 Ru, .slice o7 Rq.length c7] _ rfl
        have hy14 : w13.heap.size < w14.heap.size := XY14.out.size
        have hce2 : (Rc != Rc) = false := by simp
        go_wp2_with fail
        clear a0 af0 a1 af1 a2 af2 az x0 xf0 x1 xf1 x2 xf2 xz
        rw [← H14.out]
        refine (sameInts_same o6 o8 c6 c8 Rw w14 (by omega) U14.out.in V14.out.in).mono ?_
        rintro e w15 ⟨rfl, hb15⟩
        have hB15 := hB14.trans (hb15.mono hB14.size)
        have hs15 : w.heap.size ≤ w15.heap.size := Nat.le_trans hs14 hb15.size
        have hz15 : w14.heap.size ≤ w15.heap.size := hb15.size
        have XA15 := hid (XA14.out.later hb15)
        have XX15 := hid (XX14.out.later hb15)
        have XY15 := hid (XY14.out.later hb15)
        have D15 := hid (D14.out.later hb15)
        have F15 := hid (F14.out.later hb15)
        have U15 := hid (U14.out.later hb15)
        have V15 := hid (V14.out.later hb15)
        clear XA14 XX14 XY14 D14 F14 U14 V14
        clear hb15
        by_cases hR0 : Rc = 0
        · as_aux_lemma =>
            subst hR0
            have hgd := giveR_good (s1 := s1) (s2 := s2) (l := r) (k := rv) (by rw [HR2.out])
            rw [HR2.out] at hgd
            dsimp only at hgd
            have HGR := hid hgd.1
            have hne : (((Rq.length : Int) + (Rw.length : Int)) != (r.length : Int)) = false := by have := hgd.2.1; simp; omega
            clear hgd
            have a0 := XA15.out.c 0 rfl
            have af0 := XA15.out.f 0 rfl
            have a1 := XA15.out.c 1 rfl
            have af1 := XA15.out.f 1 rfl
            have a2 := XA15.out.c 2 rfl
            have af2 := XA15.out.f 2 rfl
            have az := XA15.out.size
            have x0 := XX15.out.c 0 rfl
            have xf0 := XX15.out.f 0 rfl
            have x1 := XX15.out.c 1 rfl
            have xf1 := XX15.out.f 1 rfl
            have x2 := XX15.out.c 2 rfl
            have xf2 := XX15.out.f 2 rfl
            have xz := XX15.out.size
            have y0 := XY15.out.c 0 rfl
            have yf0 := XY15.out.f 0 rfl
            have y1 := XY15.out.c 1 rfl
            have yf1 := XY15.out.f 1 rfl
            have y2 := XY15.out.c 2 rfl
            have yf2 := XY15.out.f 2 rfl
            have yz := XY15.out.size
            go_wp2_with fail
            clear a0 af0 a1 af1 a2 af2 az x0 xf0 x1 xf1 x2 xf2 xz y0 yf0 y1 yf1 y2 yf2 yz
            refine (implGoodRoom_is Rs Ru o5 c5 Rq w15 true (by omega) F15.out.in HGR.out).mono ?_
            rintro e w16 ⟨rfl, hb16⟩
            have hB16 := hB15.trans (hb16.mono hB15.size)
            have hs16 : w.heap.size ≤ w16.heap.size := Nat.le_trans hs15 hb16.size
            have hz16 : w15.heap.size ≤ w16.heap.size := hb16.size
            have XA16 := hid (XA15.out.later hb16)
            have XX16 := hid (XX15.out.later hb16)
            have XY16 := hid (XY15.out.later hb16)
            have D16 := hid (D15.out.later hb16)
            have F16 := hid (F15.out.later hb16)
            have U16 := hid (U15.out.later hb16)
            have V16 := hid (V15.out.later hb16)
            clear XA15 XX15 XY15 D15 F15 U15 V15
            clear hb16
            have a0 := XA16.out.c 0 rfl
            have af0 := XA16.out.f 0 rfl
            have a1 := XA16.out.c 1 rfl
            have af1 := XA16.out.f 1 rfl
            have a2 := XA16.out.c 2 rfl
            have af2 := XA16.out.f 2 rfl
            have az := XA16.out.size
            have x0 := XX16.out.c 0 rfl
            have xf0 := XX16.out.f 0 rfl
            have x1 := XX16.out.c 1 rfl
            have xf1 := XX16.out.f 1 rfl
            have x2 := XX16.out.c 2 rfl
            have xf2 := XX16.out.f 2 rfl
            have xz := XX16.out.size
            have y0 := XY16.out.c 0 rfl
            have yf0 := XY16.out.f 0 rfl
            have y1 := XY16.out.c 1 rfl
            have yf1 := XY16.out.f 1 rfl
            have y2 := XY16.out.c 2 rfl
            have yf2 := XY16.out.f 2 rfl
            have yz := XY16.out.size
            go_wp2_with fail
            clear a0 af0 a1 af1 a2 af2 az x0 xf0 x1 xf1 x2 xf2 xz y0 yf0 y1 yf1 y2 yf2 yz
            clear XA16 XX16 XY16 D16 F16 U16 V16
            refine (drawCancel_any co cap bs w16 hl (hb.later hB16 hB16.size)).mono ?_
            rintro e w17 ⟨⟨so, sc, l, kv, rfl, hl30, hD⟩, hb17⟩
            have hB17 := hB16.trans (hb17.mono hB16.size)
            have hs17 : w.heap.size ≤ w17.heap.size := Nat.le_trans hs16 hb17.size
            have hz17 : w16.heap.size ≤ w17.heap.size := hb17.size
            have D17 := hid (hD)
            clear hb17 hD
            obtain ⟨Z, E, Cc, hR⟩ : ∃ Z E Cc, cancelR l kv = (Z, E, Cc) := ⟨_, _, _, rfl⟩
            have HC := hid hR
            have hq3 := cancelR_short (l := l) (k := kv) (by omega)
            rw [hR] at hq3
            dsimp only at hq3
            clear hR
            go_wp2_with fail
            refine (implCancel_as so sc l kv Z E Cc w17 (by omega) D17.out.in HC.out).mono ?_
            rintro e w18 ⟨⟨zo, zc, eo, ec, rfl, hF1, hF2⟩, hb18⟩
            have hB18 := hB17.trans (hb18.mono hB17.size)
            have hs18 : w.heap.size ≤ w18.heap.size := Nat.le_trans hs17 hb18.size
            have hz18 : w17.heap.size ≤ w18.heap.size := hb18.size
            have D18 := hid (D17.out.later hb18)
            clear D17
            have F18 := hid (hF1)
            have U18 := hid (hF2)
            clear hb18 hF1 hF2
            go_wp2_with fail
            refine (specCancel_as so sc l kv Z E Cc w18 (by omega) D18.out.no D18.out.in HC.out).mono ?_
            rintro e w19 ⟨⟨zo2, zc2, eo2, ec2, rfl, hF1, hF2⟩, hb19⟩
            have hB19 := hB18.trans (hb19.mono hB18.size)
            have hs19 : w.heap.size ≤ w19.heap.size := Nat.le_trans hs18 hb19.size
            have hz19 : w18.heap.size ≤ w19.heap.size := hb19.size
            have D19 := hid (D18.out.later hb19)
            have F19 := hid (F18.out.later hb19)
            have U19 := hid (U18.out.later hb19)
            clear D18 F18 U18
            have V19 := hid (hF2)
            clear hb19 hF1 hF2
            have hcc : (Cc != Cc) = false := by simp
            go_wp2_with fail
            refine (sameInts_same eo eo2 ec ec2 E w19 (by omega) U19.out.in V19.out.in).mono ?_
            rintro e w20 ⟨rfl, hb20⟩
            have hB20 := hB19.trans (hb20.mono hB19.size)
            have hs20 : w.heap.size ≤ w20.heap.size := Nat.le_trans hs19 hb20.size
            have hz20 : w19.heap.size ≤ w20.heap.size := hb20.size
            have D20 := hid (D19.out.later hb20)
            have F20 := hid (F19.out.later hb20)
            have U20 := hid (U19.out.later hb20)
            have V20 := hid (V19.out.later hb20)
            clear D19 F19 U19 V19
            clear hb20
            by_cases hC0 : Cc = 0
            case neg =>
              have hC1 : (Cc != 0) = true := by simpa using hC0
              go_wp2
              go_ret
              exact ⟨rfl, hB20⟩
            subst hC0
            have hgd := cancelR_good (l := l) (k := kv) (by rw [HC.out])
            rw [HC.out] at hgd
            dsimp only at hgd
            obtain ⟨hg1, hg2, hg3, hg4, hg5⟩ := hgd
            have HG1 := hid hg1
            have HG2 := hid hg2
            have HG3 := hid hg3
            have HG5 := hid hg5
            clear hg1 hg2 hg3 hg5
            go_wp2_with fail
            refine (implGoodScopes_is zo zc Z w20 true (by omega) F20.out.in HG1.out).mono ?_
            rintro e w21 ⟨rfl, hb21⟩
            have hB21 := hB20.trans (hb21.mono hB20.size)
            have hs21 : w.heap.size ≤ w21.heap.size := Nat.le_trans hs20 hb21.size
            have hz21 : w20.heap.size ≤ w21.heap.size := hb21.size
            have D21 := hid (D20.out.later hb21)
            have F21 := hid (F20.out.later hb21)
            have U21 := hid (U20.out.later hb21)
            have V21 := hid (V20.out.later hb21)
            clear D20 F20 U20 V20
            clear hb21
            go_wp2_with fail
            refine (has_is _ eo ec E kv w21 true (by omega) U21.out.in HG2.out).mono ?_
            rintro e w22 ⟨rfl, hw22⟩
            rw [hw22]
            clear hw22 w22
            go_wp2
            go_loopw [174] (fun i wr => ∃ j : Nat, j ≤ Z.length ∧ i = .int .i64 j ∧ Below w21.heap.size w21 wr) (fun i _ => Z.length - (intOf i).toNat)
            case atStart => exact ⟨0, Nat.zero_le _, rfl, Below.refl _ _⟩
            case round =>
              obtain ⟨j, hj, rfl, hbr⟩ := hrel
              by_cases hlt : j < Z.length
              case pos =>
                have hjl : j < l.length := by have := HG3.out; omega
                obtain ⟨zb, zf, rfl, hzb, hzc⟩ := kS_at F21.out.in hlt
                obtain ⟨lb, lf, rfl, hlb, hlc⟩ := kS_at D21.out.in hjl
                obtain ⟨⟨y1, y2, y3⟩, ey⟩ : ∃ y, y = el Z j := ⟨_, rfl⟩
                obtain ⟨⟨x1, x2, x3⟩, ex⟩ : ∃ x, x = el l j := ⟨_, rfl⟩
                obtain ⟨hb1, hb2, hb3⟩ := HG5.out j hjl
                rw [← ey, ← ex] at hb3
                rw [← ey] at hb1 hb2
                dsimp only at hb1 hb2 hb3
                obtain ⟨V, hV⟩ : ∃ V, V = wr.alloc (.cells #[.int .i64 y1, .int .i64 y2, .int .i64 y3] 48) := ⟨_, rfl⟩
                have hbV : Below w21.heap.size w21 V := by rw [hV]; exact hbr.alloc hbr.size _
                have XS : Bx V wr.heap.size [.int .i64 y1, .int .i64 y2, .int .i64 y3] := by rw [hV]; exact Bx.new [.int .i64 y1, .int .i64 y2, .int .i64 y3] _ rfl
                have q1 := (hbr.cell (p := ⟨zb, zf + j * 3, none⟩) hzb).trans (hzc j hlt).1
                have q2 := (hbr.cell (p := ⟨zb, zf + j * 3 + 1, none⟩) hzb).trans (hzc j hlt).2.1
                have q3 := (hbr.cell (p := ⟨zb, zf + j * 3 + 2, none⟩) hzb).trans (hzc j hlt).2.2
                rw [← ey] at q1 q2 q3
                have r3 := (hbV.cell (p := ⟨lb, lf + j * 3 + 2, none⟩) hlb).trans (hlc j hjl).2.2
                rw [← ex] at r3
                dsimp only at q1 q2 q3 r3
                have ZC := hid hzc
                have HLT := hid hlt
                have EY := hid ey
                clear hzc hlc ey ex
                have hltI : (j : Int) < (Z.length : Int) := by omega
                have hjlI : (j : Int) < (l.length : Int) := by omega
                have s0 := XS.c 0 rfl
                have s1 := XS.c 1 rfl
                have s2 := XS.c 2 rfl
                have sz := XS.size
                rw [hV] at s0 s1 s2 r3 sz
                by_cases hy1 : 0 ≤ y1
                case neg =>
                  have hy2 : decide (0 ≤ y1) = false := by simpa using hy1
                  clear hb2
                  by_cases hx3 : x3 = 0
                  · have hx4 : (x3 != 0) = false := by simpa using hx3
                    have HX3 := hid hx3
                    clear hx3 hb3
                    clear hV
                    go_wp2
                    go_quiet (fail)
                    go_wp2
                    go_roundw
                    case rel => exact ⟨j + 1, by omega, by go_num, below_draws (Below.alloc hbr hbr.size _) _⟩
                    case measure => simp [intOf]; omega
                  · have hx4 : (x3 != 0) = true := by simpa using hx3
                    have hy3 : (y3 != x3) = false := by simp; exact Classical.byContradiction fun e => hb3 ⟨hx3, e⟩
                    clear hb3
                    clear hV
                    go_wp2
                    go_quiet (fail)
                    go_wp2
                    go_roundw
                    case rel => exact ⟨j + 1, by omega, by go_num, below_draws (Below.alloc hbr hbr.size _) _⟩
                    case measure => simp [intOf]; omega
                have hy2 : decide (0 ≤ y1) = true := by simpa using hy1
                obtain ⟨u, rfl⟩ : ∃ u : Nat, y1 = u := ⟨y1.toNat, by omega⟩
                have hul : u < Z.length := by have := HLT.out; omega
                have huI : (u : Int) < (Z.length : Int) := by omega
                have v3 := (hbV.cell (p := ⟨zb, zf + u * 3 + 2, none⟩) hzb).trans (ZC.out u hul).2.2
                obtain ⟨tw, etw⟩ : ∃ t, t = (el Z u).2.2 := ⟨_, rfl⟩
                rw [← etw] at v3
                rw [Int.toNat_natCast, ← etw] at hb2
                rw [hV] at v3
                clear etw
                by_cases ht : tw = 0
                · have ht1 : (tw != 0) = false := by simpa using ht
                  clear hb2 ht
                  by_cases hx3 : x3 = 0
                  · have hx4 : (x3 != 0) = false := by simpa using hx3
                    have HX3 := hid hx3
                    clear hx3 hb3
                    clear hV
                    go_wp2
                    go_quiet (fail)
                    go_wp2
                    go_roundw
                    case rel => exact ⟨j + 1, by omega, by go_num, below_draws (Below.alloc hbr hbr.size _) _⟩
                    case measure => simp [intOf]; omega
                  · have hx4 : (x3 != 0) = true := by simpa using hx3
                    have hy3 : (y3 != x3) = false := by simp; exact Classical.byContradiction fun e => hb3 ⟨hx3, e⟩
                    clear hb3
                    clear hV
                    go_wp2
                    go_quiet (fail)
                    go_wp2
                    go_roundw
                    case rel => exact ⟨j + 1, by omega, by go_num, below_draws (Below.alloc hbr hbr.size _) _⟩
                    case measure => simp [intOf]; omega
                · have ht1 : (tw != 0) = true := by simpa using ht
                  have hy3z : (y3 == 0) = false := by simp; exact fun e => hb2 ⟨by omega, ht, e⟩
                  clear hb2
                  by_cases hx3 : x3 = 0
                  · have hx4 : (x3 != 0) = false := by simpa using hx3
                    have HX3 := hid hx3
                    clear hx3 hb3
                    clear hV
                    go_wp2
                    go_quiet (fail)
                    go_wp2
                    go_roundw
                    case rel => exact ⟨j + 1, by omega, by go_num, below_draws (Below.alloc hbr hbr.size _) _⟩
                    case measure => simp [intOf]; omega
                  · have hx4 : (x3 != 0) = true := by simpa using hx3
                    have hy3 : (y3 != x3) = false := by simp; exact Classical.byContradiction fun e => hb3 ⟨hx3, e⟩
                    clear hb3
                    clear hV
                    go_wp2
                    go_quiet (fail)
                    go_wp2
                    go_roundw
                    case rel => exact ⟨j + 1, by omega, by go_num, below_draws (Below.alloc hbr hbr.size _) _⟩
                    case measure => simp [intOf]; omega
              obtain rfl : j = Z.length := by omega
              go_wp2
              go_ret
              exact ⟨rfl, hB21.trans (hbr.mono hB21.size)⟩
        · as_aux_lemma =>
            have hR1 : (Rc == 0) = false := by simpa using hR0
            have a0 := XA15.out.c 0 rfl
            have af0 := XA15.out.f 0 rfl
            have a1 := XA15.out.c 1 rfl
            have af1 := XA15.out.f 1 rfl
            have a2 := XA15.out.c 2 rfl
            have af2 := XA15.out.f 2 rfl
            have az := XA15.out.size
            have x0 := XX15.out.c 0 rfl
            have xf0 := XX15.out.f 0 rfl
            have x1 := XX15.out.c 1 rfl
            have xf1 := XX15.out.f 1 rfl
            have x2 := XX15.out.c 2 rfl
            have xf2 := XX15.out.f 2 rfl
            have xz := XX15.out.size
            have y0 := XY15.out.c 0 rfl
            have yf0 := XY15.out.f 0 rfl
            have y1 := XY15.out.c 1 rfl
            have yf1 := XY15.out.f 1 rfl
            have y2 := XY15.out.c 2 rfl
            have yf2 := XY15.out.f 2 rfl
            have yz := XY15.out.size
            go_wp2_with fail
            clear a0 af0 a1 af1 a2 af2 az x0 xf0 x1 xf1 x2 xf2 xz y0 yf0 y1 yf1 y2 yf2 yz
            clear XA15 XX15 XY15 D15 F15 U15 V15
            refine (drawCancel_any co cap bs w15 hl (hb.later hB15 hB15.size)).mono ?_
            rintro e w16 ⟨⟨so, sc, l, kv, rfl, hl30, hD⟩, hb16⟩
            have hB16 := hB15.trans (hb16.mono hB15.size)
            have hs16 : w.heap.size ≤ w16.heap.size := Nat.le_trans hs15 hb16.size
            have hz16 : w15.heap.size ≤ w16.heap.size := hb16.size
            have D16 := hid (hD)
            clear hb16 hD
            obtain ⟨Z, E, Cc, hR⟩ : ∃ Z E Cc, cancelR l kv = (Z, E, Cc) := ⟨_, _, _, rfl⟩
            have HC := hid hR
            have hq3 := cancelR_short (l := l) (k := kv) (by omega)
            rw [hR] at hq3
            dsimp only at hq3
            clear hR
            go_wp2_with fail
            refine (implCancel_as so sc l kv Z E Cc w16 (by omega) D16.out.in HC.out).mono ?_
            rintro e w17 ⟨⟨zo, zc, eo, ec, rfl, hF1, hF2⟩, hb17⟩
            have hB17 := hB16.trans (hb17.mono hB16.size)
            have hs17 : w.heap.size ≤ w17.heap.size := Nat.le_trans hs16 hb17.size
            have hz17 : w16.heap.size ≤ w17.heap.size := hb17.size
            have D17 := hid (D16.out.later hb17)
            clear D16
            have F17 := hid (hF1)
            have U17 := hid (hF2)
            clear hb17 hF1 hF2
            go_wp2_with fail
            refine (specCancel_as so sc l kv Z E Cc w17 (by omega) D17.out.no D17.out.in HC.out).mono ?_
            rintro e w18 ⟨⟨zo2, zc2, eo2, ec2, rfl, hF1, hF2⟩, hb18⟩
            have hB18 := hB17.trans (hb18.mono hB17.size)
            have hs18 : w.heap.size ≤ w18.heap.size := Nat.le_trans hs17 hb18.size
            have hz18 : w17.heap.size ≤ w18.heap.size := hb18.size
            have D18 := hid (D17.out.later hb18)
            have F18 := hid (F17.out.later hb18)
            have U18 := hid (U17.out.later hb18)
            clear D17 F17 U17
            have V18 := hid (hF2)
            clear hb18 hF1 hF2
            have hcc : (Cc != Cc) = false := by simp
            go_wp2_with fail
            refine (sameInts_same eo eo2 ec ec2 E w18 (by omega) U18.out.in V18.out.in).mono ?_
            rintro e w19 ⟨rfl, hb19⟩
            have hB19 := hB18.trans (hb19.mono hB18.size)
            have hs19 : w.heap.size ≤ w19.heap.size := Nat.le_trans hs18 hb19.size
            have hz19 : w18.heap.size ≤ w19.heap.size := hb19.size
            have D19 := hid (D18.out.later hb19)
            have F19 := hid (F18.out.later hb19)
            have U19 := hid (U18.out.later hb19)
            have V19 := hid (V18.out.later hb19)
            clear D18 F18 U18 V18
            clear hb19
            by_cases hC0 : Cc = 0
            case neg =>
              have hC1 : (Cc != 0) = true := by simpa using hC0
              go_wp2
              go_ret
              exact ⟨rfl, hB19⟩
            subst hC0
            have hgd := cancelR_good (l := l) (k := kv) (by rw [HC.out])
            rw [HC.out] at hgd
            dsimp only at hgd
            obtain ⟨hg1, hg2, hg3, hg4, hg5⟩ := hgd
            have HG1 := hid hg1
            have HG2 := hid hg2
            have HG3 := hid hg3
            have HG5 := hid hg5
            clear hg1 hg2 hg3 hg5
            go_wp2_with fail
            refine (implGoodScopes_is zo zc Z w19 true (by omega) F19.out.in HG1.out).mono ?_
            rintro e w20 ⟨rfl, hb20⟩
            have hB20 := hB19.trans (hb20.mono hB19.size)
            have hs20 : w.heap.size ≤ w20.heap.size := Nat.le_trans hs19 hb20.size
            have hz20 : w19.heap.size ≤ w20.heap.size := hb20.size
            have D20 := hid (D19.out.later hb20)
            have F20 := hid (F19.out.later hb20)
            have U20 := hid (U19.out.later hb20)
            have V20 := hid (V19.out.later hb20)
            clear D19 F19 U19 V19
            clear hb20
            go_wp2_with fail
            refine (has_is _ eo ec E kv w20 true (by omega) U20.out.in HG2.out).mono ?_
            rintro e w21 ⟨rfl, hw21⟩
            rw [hw21]
            clear hw21 w21
            go_wp2
            go_loopw [174] (fun i wr => ∃ j : Nat, j ≤ Z.length ∧ i = .int .i64 j ∧ Below w20.heap.size w20 wr) (fun i _ => Z.length - (intOf i).toNat)
            case atStart => exact ⟨0, Nat.zero_le _, rfl, Below.refl _ _⟩
            case round =>
              obtain ⟨j, hj, rfl, hbr⟩ := hrel
              by_cases hlt : j < Z.length
              case pos =>
                have hjl : j < l.length := by have := HG3.out; omega
                obtain ⟨zb, zf, rfl, hzb, hzc⟩ := kS_at F20.out.in hlt
                obtain ⟨lb, lf, rfl, hlb, hlc⟩ := kS_at D20.out.in hjl
                obtain ⟨⟨y1, y2, y3⟩, ey⟩ : ∃ y, y = el Z j := ⟨_, rfl⟩
                obtain ⟨⟨x1, x2, x3⟩, ex⟩ : ∃ x, x = el l j := ⟨_, rfl⟩
                obtain ⟨hb1, hb2, hb3⟩ := HG5.out j hjl
                rw [← ey, ← ex] at hb3
                rw [← ey] at hb1 hb2
                dsimp only at hb1 hb2 hb3
                obtain ⟨V, hV⟩ : ∃ V, V = wr.alloc (.cells #[.int .i64 y1, .int .i64 y2, .int .i64 y3] 48) := ⟨_, rfl⟩
                have hbV : Below w20.heap.size w20 V := by rw [hV]; exact hbr.alloc hbr.size _
                have XS : Bx V wr.heap.size [.int .i64 y1, .int .i64 y2, .int .i64 y3] := by rw [hV]; exact Bx.new [.int .i64 y1, .int .i64 y2, .int .i64 y3] _ rfl
                have q1 := (hbr.cell (p := ⟨zb, zf + j * 3, none⟩) hzb).trans (hzc j hlt).1
                have q2 := (hbr.cell (p := ⟨zb, zf + j * 3 + 1, none⟩) hzb).trans (hzc j hlt).2.1
                have q3 := (hbr.cell (p := ⟨zb, zf + j * 3 + 2, none⟩) hzb).trans (hzc j hlt).2.2
                rw [← ey] at q1 q2 q3
                have r3 := (hbV.cell (p := ⟨lb, lf + j * 3 + 2, none⟩) hlb).trans (hlc j hjl).2.2
                rw [← ex] at r3
                dsimp only at q1 q2 q3 r3
                have ZC := hid hzc
                have HLT := hid hlt
                have EY := hid ey
                clear hzc hlc ey ex
                have hltI : (j : Int) < (Z.length : Int) := by omega
                have hjlI : (j : Int) < (l.length : Int) := by omega
                have s0 := XS.c 0 rfl
                have s1 := XS.c 1 rfl
                have s2 := XS.c 2 rfl
                have sz := XS.size
                rw [hV] at s0 s1 s2 r3 sz
                by_cases hy1 : 0 ≤ y1
                case neg =>
                  have hy2 : decide (0 ≤ y1) = false := by simpa using hy1
                  clear hb2
                  by_cases hx3 : x3 = 0
                  · have hx4 : (x3 != 0) = false := by simpa using hx3
                    have HX3 := hid hx3
                    clear hx3 hb3
                    clear hV
                    go_wp2
                    go_quiet (fail)
                    go_wp2
                    go_roundw
                    case rel => exact ⟨j + 1, by omega, by go_num, below_draws (Below.alloc hbr hbr.size _) _⟩
                    case measure => simp [intOf]; omega
                  · have hx4 : (x3 != 0) = true := by simpa using hx3
                    have hy3 : (y3 != x3) = false := by simp; exact Classical.byContradiction fun e => hb3 ⟨hx3, e⟩
                    clear hb3
                    clear hV
                    go_wp2
                    go_quiet (fail)
                    go_wp2
                    go_roundw
                    case rel => exact ⟨j + 1, by omega, by go_num, below_draws (Below.alloc hbr hbr.size _) _⟩
                    case measure => simp [intOf]; omega
                have hy2 : decide (0 ≤ y1) = true := by simpa using hy1
                obtain ⟨u, rfl⟩ : ∃ u : Nat, y1 = u := ⟨y1.toNat, by omega⟩
                have hul : u < Z.length := by have := HLT.out; omega
                have huI : (u : Int) < (Z.length : Int) := by omega
                have v3 := (hbV.cell (p := ⟨zb, zf + u * 3 + 2, none⟩) hzb).trans (ZC.out u hul).2.2
                obtain ⟨tw, etw⟩ : ∃ t, t = (el Z u).2.2 := ⟨_, rfl⟩
                rw [← etw] at v3
                rw [Int.toNat_natCast, ← etw] at hb2
                rw [hV] at v3
                clear etw
                by_cases ht : tw = 0
                · have ht1 : (tw != 0) = false := by simpa using ht
                  clear hb2 ht
                  by_cases hx3 : x3 = 0
                  · have hx4 : (x3 != 0) = false := by simpa using hx3
                    have HX3 := hid hx3
                    clear hx3 hb3
                    clear hV
                    go_wp2
                    go_quiet (fail)
                    go_wp2
                    go_roundw
                    case rel => exact ⟨j + 1, by omega, by go_num, below_draws (Below.alloc hbr hbr.size _) _⟩
                    case measure => simp [intOf]; omega
                  · have hx4 : (x3 != 0) = true := by simpa using hx3
                    have hy3 : (y3 != x3) = false := by simp; exact Classical.byContradiction fun e => hb3 ⟨hx3, e⟩
                    clear hb3
                    clear hV
                    go_wp2
                    go_quiet (fail)
                    go_wp2
                    go_roundw
                    case rel => exact ⟨j + 1, by omega, by go_num, below_draws (Below.alloc hbr hbr.size _) _⟩
                    case measure => simp [intOf]; omega
                · have ht1 : (tw != 0) = true := by simpa using ht
                  have hy3z : (y3 == 0) = false := by simp; exact fun e => hb2 ⟨by omega, ht, e⟩
                  clear hb2
                  by_cases hx3 : x3 = 0
                  · have hx4 : (x3 != 0) = false := by simpa using hx3
                    have HX3 := hid hx3
                    clear hx3 hb3
                    clear hV
                    go_wp2
                    go_quiet (fail)
                    go_wp2
                    go_roundw
                    case rel => exact ⟨j + 1, by omega, by go_num, below_draws (Below.alloc hbr hbr.size _) _⟩
                    case measure => simp [intOf]; omega
                  · have hx4 : (x3 != 0) = true := by simpa using hx3
                    have hy3 : (y3 != x3) = false := by simp; exact Classical.byContradiction fun e => hb3 ⟨hx3, e⟩
                    clear hb3
                    clear hV
                    go_wp2
                    go_quiet (fail)
                    go_wp2
                    go_roundw
                    case rel => exact ⟨j + 1, by omega, by go_num, below_draws (Below.alloc hbr hbr.size _) _⟩
                    case measure => simp [intOf]; omega
              obtain rfl : j = Z.length := by omega
              go_wp2
              go_ret
              exact ⟨rfl, hB20.trans (hbr.mono hB20.size)⟩
  · as_aux_lemma =>
      have hG1 : (Gr == 0) = false := by simpa using hG0
      have a0 := XA7.out.c 0 rfl
      have af0 := XA7.out.f 0 rfl
      have a1 := XA7.out.c 1 rfl
      have af1 := XA7.out.f 1 rfl
      have az := XA7.out.size
      have x0 := XX7.out.c 0 rfl
      have xf0 := XX7.out.f 0 rfl
      have x1 := XX7.out.c 1 rfl
      have xf1 := XX7.out.f 1 rfl
      have xz := XX7.out.size
      have y0 := XY7.out.c 0 rfl
      have yf0 := XY7.out.f 0 rfl
      have y1 := XY7.out.c 1 rfl
      have yf1 := XY7.out.f 1 rfl
      have yz := XY7.out.size
      go_wp2_with fail
      clear a0 af0 a1 af1 az x0 xf0 x1 xf1 xz y0 yf0 y1 yf1 yz
      clear XA7 XX7 XY7 D7 F7 U7 V7
      refine (drawGive_any mo mcap ms w7 hml (hm.later hB7 hB7.size)).mono ?_
      rintro e w8 ⟨⟨s1, s2, ro, rc, r, rv, rfl, hr40, hD⟩, hb8⟩
      have hB8 := hB7.trans (hb8.mono hB7.size)
      have hs8 : w.heap.size ≤ w8.heap.size := Nat.le_trans hs7 hb8.size
      have hz8 : w7.heap.size ≤ w8.heap.size := hb8.size
      have D8 := hid (hD)
      clear hb8 hD
      obtain ⟨Rs, Ru, Rq, Rw, Rc, hR2⟩ : ∃ Rs Ru Rq Rw Rc, giveR s1 s2 r rv = (Rs, Ru, Rq, Rw, Rc) := ⟨_, _, _, _, _, rfl⟩
      have HR2 := hid hR2
      have hq2 := giveR_short (s1 := s1) (s2 := s2) (l := r) (k := rv) (by omega)
      rw [hR2] at hq2
      dsimp only at hq2
      clear hR2
      obtain ⟨w9, hV⟩ : ∃ V, V = w8.alloc (.cells #[.int .i64 s1, .int .i64 s2, .slice ro r.length rc] 34) := ⟨_, rfl⟩
      have hz9 : w8.heap.size ≤ w9.heap.size := by rw [hV]; simp
      have hs9 : w.heap.size ≤ w9.heap.size := Nat.le_trans hs8 hz9
      have hB9 : Below w.heap.size w w9 := by rw [hV]; exact Below.allocS hB8 _
      have D9 := hid (D8.out.later (below1 w8 (.cells #[.int .i64 s1, .int .i64 s2, .slice ro r.length rc] 34)))
      rw [← hV] at D9
      have H9 : Hid (w9 = w8.alloc (.cells #[.int .i64 s1, .int .i64 s2, .slice ro r.length rc] 34)) := hV
      clear hV D8
      have XA9 : Hid (Bx w9 w8.heap.size [.int .i64 s1, .int .i64 s2, .slice ro r.length rc]) := by rw [H9.out]; exact Bx.new [.int .i64 s1, .int .i64 s2, .slice ro r.length rc] _ rfl
      have hy9 : w8.heap.size < w9.heap.size := XA9.out.size
      go_wp2_with fail
      rw [← H9.out]
      refine (implGive_as s1 s2 ro rc r rv Rs Ru Rq Rw Rc w9 (by omega) D9.out.in HR2.out).mono ?_
      rintro e w10 ⟨⟨o5, c5, o6, c6, rfl, hF1, hF2⟩, hb10⟩
      have hB10 := hB9.trans (hb10.mono hB9.size)
      have hs10 : w.heap.size ≤ w10.heap.size := Nat.le_trans hs9 hb10.size
      have hz10 : w9.heap.size ≤ w10.heap.size := hb10.size
      have XA10 := hid (XA9.out.later hb10)
      have D10 := hid (D9.out.later hb10)
      clear XA9 D9
      have F10 := hid (hF1)
      have U10 := hid (hF2)
      clear hb10 hF1 hF2
      have a0 := XA10.out.c 0 rfl
      have af0 := XA10.out.f 0 rfl
      have a1 := XA10.out.c 1 rfl
      have af1 := XA10.out.f 1 rfl
      have a2 := XA10.out.c 2 rfl
      have af2 := XA10.out.f 2 rfl
      have az := XA10.out.size
      obtain ⟨w11, hV⟩ : ∃ V, V = w10.alloc (.cells #[.int .i64 Rs, .int .i64 Ru, .slice o5 Rq.length c5] 34) := ⟨_, rfl⟩
      have hz11 : w10.heap.size ≤ w11.heap.size := by rw [hV]; simp
      have hs11 : w.heap.size ≤ w11.heap.size := Nat.le_trans hs10 hz11
      have hB11 : Below w.heap.size w w11 := by rw [hV]; exact Below.allocS hB10 _
      have XA11 := hid (XA10.out.alloc (.cells #[.int .i64 Rs, .int .i64 Ru, .slice o5 Rq.length c5] 34))
      rw [← hV] at XA11
      have D11 := hid (D10.out.later (below1 w10 (.cells #[.int .i64 Rs, .int .i64 Ru, .slice o5 Rq.length c5] 34)))
      rw [← hV] at D11
      have F11 := hid (F10.out.later (below1 w10 (.cells #[.int .i64 Rs, .int .i64 Ru, .slice o5 Rq.length c5] 34)))
      rw [← hV] at F11
      have U11 := hid (U10.out.later (below1 w10 (.cells #[.int .i64 Rs, .int .i64 Ru, .slice o5 Rq.length c5] 34)))
      rw [← hV] at U11
      have H11 : Hid (w11 = w10.alloc (.cells #[.int .i64 Rs, .int .i64 Ru, .slice o5 Rq.length c5] 34)) := hV
      clear hV XA10 D10 F10 U10
      have XX11 : Hid (Bx w11 w10.heap.size [.int .i64 Rs, .int .i64 Ru, .slice o5 Rq.length c5]) := by rw [H11.out]; exact Bx.new [.int .i64 Rs, .int .i64 Ru, .slice o5 Rq.length c5] _ rfl
      have hy11 : w10.heap.size < w11.heap.size := XX11.out.size
      go_wp2_with fail
      clear a0 af0 a1 af1 a2 af2 az
      rw [← H11.out]
      refine (specGive_as s1 s2 ro rc r rv Rs Ru Rq Rw Rc w11 (by omega) D11.out.no D11.out.in HR2.out).mono ?_
      rintro e w12 ⟨⟨o7, c7, o8, c8, rfl, hF1, hF2⟩, hb12⟩
      have hB12 := hB11.trans (hb12.mono hB11.size)
      have hs12 : w.heap.size ≤ w12.heap.size := Nat.le_trans hs11 hb12.size
      have hz12 : w11.heap.size ≤ w12.heap.size := hb12.size
      have XA12 := hid (XA11.out.later hb12)
      have XX12 := hid (XX11.out.later hb12)
      have D12 := hid (D11.out.later hb12)
      have F12 := hid (F11.out.later hb12)
      have U12 := hid (U11.out.later hb12)
      clear XA11 XX11 D11 F11 U11
      have V12 := hid (hF2)
      clear hb12 hF1 hF2
      have a0 := XA12.out.c 0 rfl
      have af0 := XA12.out.f 0 rfl
      have a1 := XA12.out.c 1 rfl
      have af1 := XA12.out.f 1 rfl
      have a2 := XA12.out.c 2 rfl
      have af2 := XA12.out.f 2 rfl
      have az := XA12.out.size
      have x0 := XX12.out.c 0 rfl
      have xf0 := XX12.out.f 0 rfl
      have x1 := XX12.out.c 1 rfl
      have xf1 := XX12.out.f 1 rfl
      have x2 := XX12.out.c 2 rfl
      have xf2 := XX12.out.f 2 rfl
      have xz := XX12.out.size
      obtain ⟨w13, hV⟩ : ∃ V, V = w12.alloc (.cells #[.int .i64 Rs, .int .i64 Ru, .slice o7 Rq.length c7] 34) := ⟨_, rfl⟩
      have hz13 : w12.heap.size ≤ w13.heap.size := by rw [hV]; simp
      have hs13 : w.heap.size ≤ w13.heap.size := Nat.le_trans hs12 hz13
      have hB13 : Below w.heap.size w w13 := by rw [hV]; exact Below.allocS hB12 _
      have XA13 := hid (XA12.out.alloc (.cells #[.int .i64 Rs, .int .i64 Ru, .slice o7 Rq.length c7] 34))
      rw [← hV] at XA13
      have XX13 := hid (XX12.out.alloc (.cells #[.int .i64 Rs, .int .i64 Ru, .slice o7 Rq.length c7] 34))
      rw [← hV] at XX13
      have D13 := hid (D12.out.later (below1 w12 (.cells #[.int .i64 Rs, .int .i64 Ru, .slice o7 Rq.length c7] 34)))
      rw [← hV] at D13
      have F13 := hid (F12.out.later (below1 w12 (.cells #[.int .i64 Rs, .int .i64 Ru, .slice o7 Rq.length c7] 34)))
      rw [← hV] at F13
      have U13 := hid (U12.out.later (below1 w12 (.cells #[.int .i64 Rs, .int .i64 Ru, .slice o7 Rq.length c7] 34)))
      rw [← hV] at U13
      have V13 := hid (V12.out.later (below1 w12 (.cells #[.int .i64 Rs, .int .i64 Ru, .slice o7 Rq.length c7] 34)))
      rw [← hV] at V13
      have H13 : Hid (w13 = w12.alloc (.cells #[.int .i64 Rs, .int .i64 Ru, .slice o7 Rq.length c7] 34)) := hV
      clear hV XA12 XX12 D12 F12 U12 V12
      have XY13 : Hid (Bx w13 w12.heap.size [.int .i64 Rs, .int .i64 Ru, .slice o7 Rq.length c7]) := by rw [H13.out]; exact Bx.new [.int .i64 Rs, .int .i64 Ru, .slice o7 Rq.length c7] _ rfl
      have hy13 : w12.heap.size < w13.heap.size := XY13.out.size
      have hce2 : (Rc != Rc) = false := by simp
      go_wp2_with fail
      clear a0 af0 a1 af1 a2 af2 az x0 xf0 x1 xf1 x2 xf2 xz
      rw [← H13.out]
      refine (sameInts_same o6 o8 c6 c8 Rw w13 (by omega) U13.out.in V13.out.in).mono ?_
      rintro e w14 ⟨rfl, hb14⟩
      have hB14 := hB13.trans (hb14.mono hB13.size)
      have hs14 : w.heap.size ≤ w14.heap.size := Nat.le_trans hs13 hb14.size
      have hz14 : w13.heap.size ≤ w14.heap.size := hb14.size
      have XA14 := hid (XA13.out.later hb14)
      have XX14 := hid (XX13.out.later hb14)
      have XY14 := hid (XY13.out.later hb14)
      have D14 := hid (D13.out.later hb14)
      have F14 := hid (F13.out.later hb14)
      have U14 := hid (U13.out.later hb14)
      have V14 := hid (V13.out.later hb14)
      clear XA13 XX13 XY13 D13 F13 U13 V13
      clear hb14
      by_cases hR0 : Rc = 0
      · as_aux_lemma =>
          subst hR0
          have hgd := giveR_good (s1 := s1) (s2 := s2) (l := r) (k := rv) (by rw [HR2.out])
          rw [HR2.out] at hgd
          dsimp only at hgd
          have HGR := hid hgd.1
          have hne : (((Rq.length : Int) + (Rw.length : Int)) != (r.length : Int)) = false := by have := hgd.2.1; simp; omega
          clear hgd
          have a0 := XA14.out.c 0 rfl
          have af0 := XA14.out.f 0 rfl
          have a1 := XA14.out.c 1 rfl
          have af1 := XA14.out.f 1 rfl
          have a2 := XA14.out.c 2 rfl
          have af2 := XA14.out.f 2 rfl
          have az := XA14.out.size
          have x0 := XX14.out.c 0 rfl
          have xf0 := XX14.out.f 0 rfl
          have x1 := XX14.out.c 1 rfl
          have xf1 := XX14.out.f 1 rfl
          have x2 := XX14.out.c 2 rfl
          have xf2 := XX14.out.f 2 rfl
          have xz := XX14.out.size
          have y0 := XY14.out.c 0 rfl
          have yf0 := XY14.out.f 0 rfl
          have y1 := XY14.out.c 1 rfl
          have yf1 := XY14.out.f 1 rfl
          have y2 := XY14.out.c 2 rfl
          have yf2 := XY14.out.f 2 rfl
          have yz := XY14.out.size
          go_wp2_with fail
          clear a0 af0 a1 af1 a2 af2 az x0 xf0 x1 xf1 x2 xf2 xz y0 yf0 y1 yf1 y2 yf2 yz
          refine (implGoodRoom_is Rs Ru o5 c5 Rq w14 true (by omega) F14.out.in HGR.out).mono ?_
          rintro e w15 ⟨rfl, hb15⟩
          have hB15 := hB14.trans (hb15.mono hB14.size)
          have hs15 : w.heap.size ≤ w15.heap.size := Nat.le_trans hs14 hb15.size
          have hz15 : w14.heap.size ≤ w15.heap.size := hb15.size
          have XA15 := hid (XA14.out.later hb15)
          have XX15 := hid (XX14.out.later hb15)
          have XY15 := hid (XY14.out.later hb15)
          have D15 := hid (D14.out.later hb15)
          have F15 := hid (F14.out.later hb15)
          have U15 := hid (U14.out.later hb15)
          have V15 := hid (V14.out.later hb15)
          clear XA14 XX14 XY14 D14 F14 U14 V14
          clear hb15
          have a0 := XA15.out.c 0 rfl
          have af0 := XA15.out.f 0 rfl
          have a1 := XA15.out.c 1 rfl
          have af1 := XA15.out.f 1 rfl
          have a2 := XA15.out.c 2 rfl
          have af2 := XA15.out.f 2 rfl
          have az := XA15.out.size
          have x0 := XX15.out.c 0 rfl
          have xf0 := XX15.out.f 0 rfl
          have x1 := XX15.out.c 1 rfl
          have xf1 := XX15.out.f 1 rfl
          have x2 := XX15.out.c 2 rfl
          have xf2 := XX15.out.f 2 rfl
          have xz := XX15.out.size
          have y0 := XY15.out.c 0 rfl
          have yf0 := XY15.out.f 0 rfl
          have y1 := XY15.out.c 1 rfl
          have yf1 := XY15.out.f 1 rfl
          have y2 := XY15.out.c 2 rfl
          have yf2 := XY15.out.f 2 rfl
          have yz := XY15.out.size
          go_wp2_with fail
          clear a0 af0 a1 af1 a2 af2 az x0 xf0 x1 xf1 x2 xf2 xz y0 yf0 y1 yf1 y2 yf2 yz
          clear XA15 XX15 XY15 D15 F15 U15 V15
          refine (drawCancel_any co cap bs w15 hl (hb.later hB15 hB15.size)).mono ?_
          rintro e w16 ⟨⟨so, sc, l, kv, rfl, hl30, hD⟩, hb16⟩
          have hB16 := hB15.trans (hb16.mono hB15.size)
          have hs16 : w.heap.size ≤ w16.heap.size := Nat.le_trans hs15 hb16.size
          have hz16 : w15.heap.size ≤ w16.heap.size := hb16.size
          have D16 := hid (hD)
          clear hb16 hD
          obtain ⟨Z, E, Cc, hR⟩ : ∃ Z E Cc, cancelR l kv = (Z, E, Cc) := ⟨_, _, _, rfl⟩
          have HC := hid hR
          have hq3 := cancelR_short (l := l) (k := kv) (by omega)
          rw [hR] at hq3
          dsimp only at hq3
          clear hR
          go_wp2_with fail
          refine (implCancel_as so sc l kv Z E Cc w16 (by omega) D16.out.in HC.out).mono ?_
          rintro e w17 ⟨⟨zo, zc, eo, ec, rfl, hF1, hF2⟩, hb17⟩
          have hB17 := hB16.trans (hb17.mono hB16.size)
          have hs17 : w.heap.size ≤ w17.heap.size := Nat.le_trans hs16 hb17.size
          have hz17 : w16.heap.size ≤ w17.heap.size := hb17.size
          have D17 := hid (D16.out.later hb17)
          clear D16
          have F17 := hid (hF1)
          have U17 := hid (hF2)
          clear hb17 hF1 hF2
          go_wp2_with fail
          refine (specCancel_as so sc l kv Z E Cc w17 (by omega) D17.out.no D17.out.in HC.out).mono ?_
          rintro e w18 ⟨⟨zo2, zc2, eo2, ec2, rfl, hF1, hF2⟩, hb18⟩
          have hB18 := hB17.trans (hb18.mono hB17.size)
          have hs18 : w.heap.size ≤ w18.heap.size := Nat.le_trans hs17 hb18.size
          have hz18 : w17.heap.size ≤ w18.heap.size := hb18.size
          have D18 := hid (D17.out.later hb18)
          have F18 := hid (F17.out.later hb18)
          have U18 := hid (U17.out.later hb18)
          clear D17 F17 U17
          have V18 := hid (hF2)
          clear hb18 hF1 hF2
          have hcc : (Cc != Cc) = false := by simp
          go_wp2_with fail
          refine (sameInts_same eo eo2 ec ec2 E w18 (by omega) U18.out.in V18.out.in).mono ?_
          rintro e w19 ⟨rfl, hb19⟩
          have hB19 := hB18.trans (hb19.mono hB18.size)
          have hs19 : w.heap.size ≤ w19.heap.size := Nat.le_trans hs18 hb19.size
          have hz19 : w18.heap.size ≤ w19.heap.size := hb19.size
          have D19 := hid (D18.out.later hb19)
          have F19 := hid (F18.out.later hb19)
          have U19 := hid (U18.out.later hb19)
          have V19 := hid (V18.out.later hb19)
          clear D18 F18 U18 V18
          clear hb19
          by_cases hC0 : Cc = 0
          case neg =>
            have hC1 : (Cc != 0) = true := by simpa using hC0
            go_wp2
            go_ret
            exact ⟨rfl, hB19⟩
          subst hC0
          have hgd := cancelR_good (l := l) (k := kv) (by rw [HC.out])
          rw [HC.out] at hgd
          dsimp only at hgd
          obtain ⟨hg1, hg2, hg3, hg4, hg5⟩ := hgd
          have HG1 := hid hg1
          have HG2 := hid hg2
          have HG3 := hid hg3
          have HG5 := hid hg5
          clear hg1 hg2 hg3 hg5
          go_wp2_with fail
          refine (implGoodScopes_is zo zc Z w19 true (by omega) F19.out.in HG1.out).mono ?_
          rintro e w20 ⟨rfl, hb20⟩
          have hB20 := hB19.trans (hb20.mono hB19.size)
          have hs20 : w.heap.size ≤ w20.heap.size := Nat.le_trans hs19 hb20.size
          have hz20 : w19.heap.size ≤ w20.heap.size := hb20.size
          have D20 := hid (D19.out.later hb20)
          have F20 := hid (F19.out.later hb20)
          have U20 := hid (U19.out.later hb20)
          have V20 := hid (V19.out.later hb20)
          clear D19 F19 U19 V19
          clear hb20
          go_wp2_with fail
          refine (has_is _ eo ec E kv w20 true (by omega) U20.out.in HG2.out).mono ?_
          rintro e w21 ⟨rfl, hw21⟩
          rw [hw21]
          clear hw21 w21
          go_wp2
          go_loopw [174] (fun i wr => ∃ j : Nat, j ≤ Z.length ∧ i = .int .i64 j ∧ Below w20.heap.size w20 wr) (fun i _ => Z.length - (intOf i).toNat)
          case atStart => exact ⟨0, Nat.zero_le _, rfl, Below.refl _ _⟩
          case round =>
            obtain ⟨j, hj, rfl, hbr⟩ := hrel
            by_cases hlt : j < Z.length
            case pos =>
              have hjl : j < l.length := by have := HG3.out; omega
              obtain ⟨zb, zf, rfl, hzb, hzc⟩ := kS_at F20.out.in hlt
              obtain ⟨lb, lf, rfl, hlb, hlc⟩ := kS_at D20.out.in hjl
              obtain ⟨⟨y1, y2, y3⟩, ey⟩ : ∃ y, y = el Z j := ⟨_, rfl⟩
              obtain ⟨⟨x1, x2, x3⟩, ex⟩ : ∃ x, x = el l j := ⟨_, rfl⟩
              obtain ⟨hb1, hb2, hb3⟩ := HG5.out j hjl
              rw [← ey, ← ex] at hb3
              rw [← ey] at hb1 hb2
              dsimp only at hb1 hb2 hb3
              obtain ⟨V, hV⟩ : ∃ V, V = wr.alloc (.cells #[.int .i64 y1, .int .i64 y2, .int .i64 y3] 48) := ⟨_, rfl⟩
              have hbV : Below w20.heap.size w20 V := by rw [hV]; exact hbr.alloc hbr.size _
              have XS : Bx V wr.heap.size [.int .i64 y1, .int .i64 y2, .int .i64 y3] := by rw [hV]; exact Bx.new [.int .i64 y1, .int .i64 y2, .int .i64 y3] _ rfl
              have q1 := (hbr.cell (p := ⟨zb, zf + j * 3, none⟩) hzb).trans (hzc j hlt).1
              have q2 := (hbr.cell (p := ⟨zb, zf + j * 3 + 1, none⟩) hzb).trans (hzc j hlt).2.1
              have q3 := (hbr.cell (p := ⟨zb, zf + j * 3 + 2, none⟩) hzb).trans (hzc j hlt).2.2
              rw [← ey] at q1 q2 q3
              have r3 := (hbV.cell (p := ⟨lb, lf + j * 3 + 2, none⟩) hlb).trans (hlc j hjl).2.2
              rw [← ex] at r3
              dsimp only at q1 q2 q3 r3
              have ZC := hid hzc
              have HLT := hid hlt
              have EY := hid ey
              clear hzc hlc ey ex
              have hltI : (j : Int) < (Z.length : Int) := by omega
              have hjlI : (j : Int) < (l.length : Int) := by omega
              have s0 := XS.c 0 rfl
              have s1 := XS.c 1 rfl
              have s2 := XS.c 2 rfl
              have sz := XS.size
              rw [hV] at s0 s1 s2 r3 sz
              by_cases hy1 : 0 ≤ y1
              case neg =>
                have hy2 : decide (0 ≤ y1) = false := by simpa using hy1
                clear hb2
                by_cases hx3 : x3 = 0
                · have hx4 : (x3 != 0) = false := by simpa using hx3
                  have HX3 := hid hx3
                  clear hx3 hb3
                  clear hV
                  go_wp2
                  go_quiet (fail)
                  go_wp2
                  go_roundw
                  case rel => exact ⟨j + 1, by omega, by go_num, below_draws (Below.alloc hbr hbr.size _) _⟩
                  case measure => simp [intOf]; omega
                · have hx4 : (x3 != 0) = true := by simpa using hx3
                  have hy3 : (y3 != x3) = false := by simp; exact Classical.byContradiction fun e => hb3 ⟨hx3, e⟩
                  clear hb3
                  clear hV
                  go_wp2
                  go_quiet (fail)
                  go_wp2
                  go_roundw
                  case rel => exact ⟨j + 1, by omega, by go_num, below_draws (Below.alloc hbr hbr.size _) _⟩
                  case measure => simp [intOf]; omega
              have hy2 : decide (0 ≤ y1) = true := by simpa using hy1
              obtain ⟨u, rfl⟩ : ∃ u : Nat, y1 = u := ⟨y1.toNat, by omega⟩
              have hul : u < Z.length := by have := HLT.out; omega
              have huI : (u : Int) < (Z.length : Int) := by omega
              have v3 := (hbV.cell (p := ⟨zb, zf + u * 3 + 2, none⟩) hzb).trans (ZC.out u hul).2.2
              obtain ⟨tw, etw⟩ : ∃ t, t = (el Z u).2.2 := ⟨_, rfl⟩
              rw [← etw] at v3
              rw [Int.toNat_natCast, ← etw] at hb2
              rw [hV] at v3
              clear etw
              by_cases ht : tw = 0
              · have ht1 : (tw != 0) = false := by simpa using ht
                clear hb2 ht
                by_cases hx3 : x3 = 0
                · have hx4 : (x3 != 0) = false := by simpa using hx3
                  have HX3 := hid hx3
                  clear hx3 hb3
                  clear hV
                  go_wp2
                  go_quiet (fail)
                  go_wp2
                  go_roundw
                  case rel => exact ⟨j + 1, by omega, by go_num, below_draws (Below.alloc hbr hbr.size _) _⟩
                  case measure => simp [intOf]; omega
                · have hx4 : (x3 != 0) = true := by simpa using hx3
                  have hy3 : (y3 != x3) = false := by simp; exact Classical.byContradiction fun e => hb3 ⟨hx3, e⟩
                  clear hb3
                  clear hV
                  go_wp2
                  go_quiet (fail)
                  go_wp2
                  go_roundw
                  case rel => exact ⟨j + 1, by omega, by go_num, below_draws (Below.alloc hbr hbr.size _) _⟩
                  case measure => simp [intOf]; omega
              · have ht1 : (tw != 0) = true := by simpa using ht
                have hy3z : (y3 == 0) = false := by simp; exact fun e => hb2 ⟨by omega, ht, e⟩
                clear hb2
                by_cases hx3 : x3 = 0
                · have hx4 : (x3 != 0) = false := by simpa using hx3
                  have HX3 := hid hx3
                  clear hx3 hb3
                  clear hV
                  go_wp2
                  go_quiet (fail)
                  go_wp2
                  go_roundw
                  case rel => exact ⟨j + 1, by omega, by go_num, below_draws (Below.alloc hbr hbr.size _) _⟩
                  case measure => simp [intOf]; omega
                · have hx4 : (x3 != 0) = true := by simpa using hx3
                  have hy3 : (y3 != x3) = false := by simp; exact Classical.byContradiction fun e => hb3 ⟨hx3, e⟩
                  clear hb3
                  clear hV
                  go_wp2
                  go_quiet (fail)
                  go_wp2
                  go_roundw
                  case rel => exact ⟨j + 1, by omega, by go_num, below_draws (Below.alloc hbr hbr.size _) _⟩
                  case measure => simp [intOf]; omega
            obtain rfl : j = Z.length := by omega
            go_wp2
            go_ret
            exact ⟨rfl, hB20.trans (hbr.mono hB20.size)⟩
      · as_aux_lemma =>
          have hR1 : (Rc == 0) = false := by simpa using hR0
          have a0 := XA14.out.c 0 rfl
          have af0 := XA14.out.f 0 rfl
          have a1 := XA14.out.c 1 rfl
          have af1 := XA14.out.f 1 rfl
          have a2 := XA14.out.c 2 rfl
          have af2 := XA14.out.f 2 rfl
          have az := XA14.out.size
          have x0 := XX14.out.c 0 rfl
          have xf0 := XX14.out.f 0 rfl
          have x1 := XX14.out.c 1 rfl
          have xf1 := XX14.out.f 1 rfl
          have x2 := XX14.out.c 2 rfl
          have xf2 := XX14.out.f 2 rfl
          have xz := XX14.out.size
          have y0 := XY14.out.c 0 rfl
          have yf0 := XY14.out.f 0 rfl
          have y1 := XY14.out.c 1 rfl
          have yf1 := XY14.out.f 1 rfl
          have y2 := XY14.out.c 2 rfl
          have yf2 := XY14.out.f 2 rfl
          have yz := XY14.out.size
          go_wp2_with fail
          clear a0 af0 a1 af1 a2 af2 az x0 xf0 x1 xf1 x2 xf2 xz y0 yf0 y1 yf1 y2 yf2 yz
          clear XA14 XX14 XY14 D14 F14 U14 V14
          refine (drawCancel_any co cap bs w14 hl (hb.later hB14 hB14.size)).mono ?_
          rintro e w15 ⟨⟨so, sc, l, kv, rfl, hl30, hD⟩, hb15⟩
          have hB15 := hB14.trans (hb15.mono hB14.size)
          have hs15 : w.heap.size ≤ w15.heap.size := Nat.le_trans hs14 hb15.size
          have hz15 : w14.heap.size ≤ w15.heap.size := hb15.size
          have D15 := hid (hD)
          clear hb15 hD
          obtain ⟨Z, E, Cc, hR⟩ : ∃ Z E Cc, cancelR l kv = (Z, E, Cc) := ⟨_, _, _, rfl⟩
          have HC := hid hR
          have hq3 := cancelR_short (l := l) (k := kv) (by omega)
          rw [hR] at hq3
          dsimp only at hq3
          clear hR
          go_wp2_with fail
          refine (implCancel_as so sc l kv Z E Cc w15 (by omega) D15.out.in HC.out).mono ?_
          rintro e w16 ⟨⟨zo, zc, eo, ec, rfl, hF1, hF2⟩, hb16⟩
          have hB16 := hB15.trans (hb16.mono hB15.size)
          have hs16 : w.heap.size ≤ w16.heap.size := Nat.le_trans hs15 hb16.size
          have hz16 : w15.heap.size ≤ w16.heap.size := hb16.size
          have D16 := hid (D15.out.later hb16)
          clear D15
          have F16 := hid (hF1)
          have U16 := hid (hF2)
          clear hb16 hF1 hF2
          go_wp2_with fail
          refine (specCancel_as so sc l kv Z E Cc w16 (by omega) D16.out.no D16.out.in HC.out).mono ?_
          rintro e w17 ⟨⟨zo2, zc2, eo2, ec2, rfl, hF1, hF2⟩, hb17⟩
          have hB17 := hB16.trans (hb17.mono hB16.size)
          have hs17 : w.heap.size ≤ w17.heap.size := Nat.le_trans hs16 hb17.size
          have hz17 : w16.heap.size ≤ w17.heap.size := hb17.size
          have D17 := hid (D16.out.later hb17)
          have F17 := hid (F16.out.later hb17)
          have U17 := hid (U16.out.later hb17)
          clear D16 F16 U16
          have V17 := hid (hF2)
          clear hb17 hF1 hF2
          have hcc : (Cc != Cc) = false := by simp
          go_wp2_with fail
          refine (sameInts_same eo eo2 ec ec2 E w17 (by omega) U17.out.in V17.out.in).mono ?_
          rintro e w18 ⟨rfl, hb18⟩
          have hB18 := hB17.trans (hb18.mono hB17.size)
          have hs18 : w.heap.size ≤ w18.heap.size := Nat.le_trans hs17 hb18.size
          have hz18 : w17.heap.size ≤ w18.heap.size := hb18.size
          have D18 := hid (D17.out.later hb18)
          have F18 := hid (F17.out.later hb18)
          have U18 := hid (U17.out.later hb18)
          have V18 := hid (V17.out.later hb18)
          clear D17 F17 U17 V17
          clear hb18
          by_cases hC0 : Cc = 0
          case neg =>
            have hC1 : (Cc != 0) = true := by simpa using hC0
            go_wp2
            go_ret
            exact ⟨rfl, hB18⟩
          subst hC0
          have hgd := cancelR_good (l := l) (k := kv) (by rw [HC.out])
          rw [HC.out] at hgd
          dsimp only at hgd
          obtain ⟨hg1, hg2, hg3, hg4, hg5⟩ := hgd
          have HG1 := hid hg1
          have HG2 := hid hg2
          have HG3 := hid hg3
          have HG5 := hid hg5
          clear hg1 hg2 hg3 hg5
          go_wp2_with fail
          refine (implGoodScopes_is zo zc Z w18 true (by omega) F18.out.in HG1.out).mono ?_
          rintro e w19 ⟨rfl, hb19⟩
          have hB19 := hB18.trans (hb19.mono hB18.size)
          have hs19 : w.heap.size ≤ w19.heap.size := Nat.le_trans hs18 hb19.size
          have hz19 : w18.heap.size ≤ w19.heap.size := hb19.size
          have D19 := hid (D18.out.later hb19)
          have F19 := hid (F18.out.later hb19)
          have U19 := hid (U18.out.later hb19)
          have V19 := hid (V18.out.later hb19)
          clear D18 F18 U18 V18
          clear hb19
          go_wp2_with fail
          refine (has_is _ eo ec E kv w19 true (by omega) U19.out.in HG2.out).mono ?_
          rintro e w20 ⟨rfl, hw20⟩
          rw [hw20]
          clear hw20 w20
          go_wp2
          go_loopw [174] (fun i wr => ∃ j : Nat, j ≤ Z.length ∧ i = .int .i64 j ∧ Below w19.heap.size w19 wr) (fun i _ => Z.length - (intOf i).toNat)
          case atStart => exact ⟨0, Nat.zero_le _, rfl, Below.refl _ _⟩
          case round =>
            obtain ⟨j, hj, rfl, hbr⟩ := hrel
            by_cases hlt : j < Z.length
            case pos =>
              have hjl : j < l.length := by have := HG3.out; omega
              obtain ⟨zb, zf, rfl, hzb, hzc⟩ := kS_at F19.out.in hlt
              obtain ⟨lb, lf, rfl, hlb, hlc⟩ := kS_at D19.out.in hjl
              obtain ⟨⟨y1, y2, y3⟩, ey⟩ : ∃ y, y = el Z j := ⟨_, rfl⟩
              obtain ⟨⟨x1, x2, x3⟩, ex⟩ : ∃ x, x = el l j := ⟨_, rfl⟩
              obtain ⟨hb1, hb2, hb3⟩ := HG5.out j hjl
              rw [← ey, ← ex] at hb3
              rw [← ey] at hb1 hb2
              dsimp only at hb1 hb2 hb3
              obtain ⟨V, hV⟩ : ∃ V, V = wr.alloc (.cells #[.int .i64 y1, .int .i64 y2, .int .i64 y3] 48) := ⟨_, rfl⟩
              have hbV : Below w19.heap.size w19 V := by rw [hV]; exact hbr.alloc hbr.size _
              have XS : Bx V wr.heap.size [.int .i64 y1, .int .i64 y2, .int .i64 y3] := by rw [hV]; exact Bx.new [.int .i64 y1, .int .i64 y2, .int .i64 y3] _ rfl
              have q1 := (hbr.cell (p := ⟨zb, zf + j * 3, none⟩) hzb).trans (hzc j hlt).1
              have q2 := (hbr.cell (p := ⟨zb, zf + j * 3 + 1, none⟩) hzb).trans (hzc j hlt).2.1
              have q3 := (hbr.cell (p := ⟨zb, zf + j * 3 + 2, none⟩) hzb).trans (hzc j hlt).2.2
              rw [← ey] at q1 q2 q3
              have r3 := (hbV.cell (p := ⟨lb, lf + j * 3 + 2, none⟩) hlb).trans (hlc j hjl).2.2
              rw [← ex] at r3
              dsimp only at q1 q2 q3 r3
              have ZC := hid hzc
              have HLT := hid hlt
              have EY := hid ey
              clear hzc hlc ey ex
              have hltI : (j : Int) < (Z.length : Int) := by omega
              have hjlI : (j : Int) < (l.length : Int) := by omega
              have s0 := XS.c 0 rfl
              have s1 := XS.c 1 rfl
              have s2 := XS.c 2 rfl
              have sz := XS.size
              rw [hV] at s0 s1 s2 r3 sz
              by_cases hy1 : 0 ≤ y1
              case neg =>
                have hy2 : decide (0 ≤ y1) = false := by simpa using hy1
                clear hb2
                by_cases hx3 : x3 = 0
                · have hx4 : (x3 != 0) = false := by simpa using hx3
                  have HX3 := hid hx3
                  clear hx3 hb3
                  clear hV
                  go_wp2
                  go_quiet (fail)
                  go_wp2
                  go_roundw
                  case rel => exact ⟨j + 1, by omega, by go_num, below_draws (Below.alloc hbr hbr.size _) _⟩
                  case measure => simp [intOf]; omega
                · have hx4 : (x3 != 0) = true := by simpa using hx3
                  have hy3 : (y3 != x3) = false := by simp; exact Classical.byContradiction fun e => hb3 ⟨hx3, e⟩
                  clear hb3
                  clear hV
                  go_wp2
                  go_quiet (fail)
                  go_wp2
                  go_roundw
                  case rel => exact ⟨j + 1, by omega, by go_num, below_draws (Below.alloc hbr hbr.size _) _⟩
                  case measure => simp [intOf]; omega
              have hy2 : decide (0 ≤ y1) = true := by simpa using hy1
              obtain ⟨u, rfl⟩ : ∃ u : Nat, y1 = u := ⟨y1.toNat, by omega⟩
              have hul : u < Z.length := by have := HLT.out; omega
              have huI : (u : Int) < (Z.length : Int) := by omega
              have v3 := (hbV.cell (p := ⟨zb, zf + u * 3 + 2, none⟩) hzb).trans (ZC.out u hul).2.2
              obtain ⟨tw, etw⟩ : ∃ t, t = (el Z u).2.2 := ⟨_, rfl⟩
              rw [← etw] at v3
              rw [Int.toNat_natCast, ← etw] at hb2
              rw [hV] at v3
              clear etw
              by_cases ht : tw = 0
              · have ht1 : (tw != 0) = false := by simpa using ht
                clear hb2 ht
                by_cases hx3 : x3 = 0
                · have hx4 : (x3 != 0) = false := by simpa using hx3
                  have HX3 := hid hx3
                  clear hx3 hb3
                  clear hV
                  go_wp2
                  go_quiet (fail)
                  go_wp2
                  go_roundw
                  case rel => exact ⟨j + 1, by omega, by go_num, below_draws (Below.alloc hbr hbr.size _) _⟩
                  case measure => simp [intOf]; omega
                · have hx4 : (x3 != 0) = true := by simpa using hx3
                  have hy3 : (y3 != x3) = false := by simp; exact Classical.byContradiction fun e => hb3 ⟨hx3, e⟩
                  clear hb3
                  clear hV
                  go_wp2
                  go_quiet (fail)
                  go_wp2
                  go_roundw
                  case rel => exact ⟨j + 1, by omega, by go_num, below_draws (Below.alloc hbr hbr.size _) _⟩
                  case measure => simp [intOf]; omega
              · have ht1 : (tw != 0) = true := by simpa using ht
                have hy3z : (y3 == 0) = false := by simp; exact fun e => hb2 ⟨by omega, ht, e⟩
                clear hb2
                by_cases hx3 : x3 = 0
                · have hx4 : (x3 != 0) = false := by simpa using hx3
                  have HX3 := hid hx3
                  clear hx3 hb3
                  clear hV
                  go_wp2
                  go_quiet (fail)
                  go_wp2
                  go_roundw
                  case rel => exact ⟨j + 1, by omega, by go_num, below_draws (Below.alloc hbr hbr.size _) _⟩
                  case measure => simp [intOf]; omega
                · have hx4 : (x3 != 0) = true := by simpa using hx3
                  have hy3 : (y3 != x3) = false := by simp; exact Classical.byContradiction fun e => hb3 ⟨hx3, e⟩
                  clear hb3
                  clear hV
                  go_wp2
                  go_quiet (fail)
                  go_wp2
                  go_roundw
                  case rel => exact ⟨j + 1, by omega, by go_num, below_draws (Below.alloc hbr hbr.size _) _⟩
                  case measure => simp [intOf]; omega
            obtain rfl : j = Z.length := by omega
            go_wp2
            go_ret
            exact ⟨rfl, hB19.trans (hbr.mono hB19.size)⟩
end Go.Proofs.Ytdgnolpimmdgjaa
