
/- DrawPickTask from a text of bytes. No conditions but those written. -/
import Derived.Test.YtgbnbnjfaffaiaaXl
import Derived.Test.YtgbnbnjfaffaiaaXd
import Derived.Deep.RegionLaw
namespace Go.Proofs.Ytgbnbnjfaffaiaa
open Go.RowKit

theorem BytesIn.later {n m : Nat} {W W' : World} {co : Option Addr} {bs : List Int} (h : BytesIn n W co bs) (hb : Below n W W') (hm : n ≤ m) : BytesIn m W' co bs := by
  rcases h with h | ⟨b, off, e, hbn, hc⟩
  · exact .inl h
  · exact .inr ⟨b, off, e, by omega, fun j hj => ⟨(World.cell?_of_block (a := ⟨b, off + j, none⟩) (hb.block b hbn)).trans (hc j hj).1, (hc j hj).2⟩⟩
theorem Cur.of {W : World} {p : Nat} {co : Option Addr} {cap : Nat} {bs : List Int} {k : Nat} {sd : Int} (h : Bx W p [.slice co bs.length cap, .int .i64 (k : Int), .int .u64 sd]) (hb : BytesIn p W co bs) : Cur W p co cap bs k sd := ⟨h.1, ⟨h.c 0 rfl, h.c 1 rfl, h.c 2 rfl⟩, ⟨h.f 0 rfl, h.f 1 rfl, h.f 2 rfl⟩, hb⟩
set_option maxRecDepth 10000 in
set_option maxHeartbeats 16000000 in
theorem drawPick_any (co : Option Addr) (cap : Nat) (bs : List Int) (v : World) (hl : bs.length ≤ 9223372036854775807) (hb : BytesIn v.heap.size v co bs) :
    Calls Try.prog 4 #[.slice co bs.length cap] v fun e w' => (∃ (to : Option Addr) (tc : Nat) (ts : List (Int × Int)) (qo : Option Addr) (qc : Nat) (q : List Int) (iv : Int), e = .returned (.tuple #[.agg #[.slice to ts.length tc, .slice qo q.length qc], .int .i64 iv]) ∧ (ts.length ≤ 31 ∧ q.length ≤ 32) ∧ BW v.heap.size w'.heap.size w' to tc ts qo qc q) ∧ Below v.heap.size v w' := by
  obtain ⟨w, hw⟩ : ∃ w, w = (v.alloc (.cells #[.slice none 0 0, .slice none 0 0] 26)).alloc (.cells #[.slice co bs.length cap, .int .i64 0, .int .u64 0] 42) := ⟨_, rfl⟩
  have hBv : Below v.heap.size v w := by rw [hw]; exact Below.allocS (Below.allocS (Below.refl _ _) _) _
  have XR0 : Hid (Bx w v.heap.size [.slice none 0 0, .slice none 0 0]) := by rw [hw]; exact Bx.alloc (Bx.new [.slice none 0 0, .slice none 0 0] _ rfl) _
  have XC : Bx w (v.heap.size + 1) [.slice co bs.length cap, .int .i64 ((0 : Nat) : Int), .int .u64 0] := by rw [hw]; exact Bx.new [.slice co bs.length cap, .int .i64 0, .int .u64 0] _ (by simp)
  have hvw : v.heap.size + 1 + 1 ≤ w.heap.size := by rw [hw]; simp
  have HW := hid hw
  clear hw
  have C0 := hid (Cur.of XC (hb.later hBv (by omega)))
  clear XC
  go_enter Try.func4, Try.ntmps4
  go_wp2_with fail
  rw [← HW.out]
  clear HW
  obtain ⟨p, hpe⟩ : ∃ p, p = v.heap.size + 1 := ⟨_, rfl⟩
  rw [← hpe] at C0
  rw [← hpe]
  have hp : p < w.heap.size := by omega
  have hvp : v.heap.size ≤ p := by omega
  have hvn : v.heap.size ≠ p := by omega
  clear hpe
  have hR0 := Grew.refl p w
  refine (board_any p co cap bs 0 0 w hl (by omega) C0.out).mono ?_
  rintro e w1 ⟨⟨to, tc, ts, qo, qc, q, rfl, hS, hD0⟩, k1, sd1, hk1, hC1, hg1⟩
  have XR1 := hid (XR0.out.grew hg1 (by omega))
  have C1 := hid hC1
  have hR1 : Grew p w w1 := hR0.trans hg1
  have hz1 : w.heap.size ≤ w1.heap.size := hg1.size
  clear XR0 C0 hg1 hC1
  have D1 := hid hD0
  clear hD0
  obtain ⟨hs1, hs2⟩ := hS
  have r0 := XR1.out.c 0 rfl
  have rf0 := XR1.out.f 0 rfl
  have r1 := XR1.out.c 1 rfl
  have rf1 := XR1.out.f 1 rfl
  have rz := XR1.out.size
  obtain ⟨w2, hV⟩ : ∃ V, V = w1.alloc (.cells #[.slice to ts.length tc, .slice qo q.length qc] 26) := ⟨_, rfl⟩
  have XR2 := hid (XR1.out.alloc (.cells #[.slice to ts.length tc, .slice qo q.length qc] 26))
  rw [← hV] at XR2
  have D2 := hid (D1.out.later (below1 w1 (.cells #[.slice to ts.length tc, .slice qo q.length qc] 26)))
  rw [← hV] at D2
  have C2 := hid (C1.out.later (below1 w1 (.cells #[.slice to ts.length tc, .slice qo q.length qc] 26)))
  rw [← hV] at C2
  have hR2 : Grew p w w2 := by rw [hV]; exact hR1.trans (Grew.alloc p _ _)
  have hz2 : w1.heap.size ≤ w2.heap.size := by rw [hV]; simp
  have H2 := hid hV
  clear hV XR1 D1 C1
  have XA2 : Hid (Bx w2 w1.heap.size [.slice to ts.length tc, .slice qo q.length qc]) := by rw [H2.out]; exact Bx.new [.slice to ts.length tc, .slice qo q.length qc] _ rfl
  have hy2 : w1.heap.size < w2.heap.size := XA2.out.size
  go_wp2_with fail
  clear r0 rf0 r1 rf1 rz
  rw [← H2.out]
  clear H2
  refine (stepYield to tc ts qo qc q w2 (by omega) (by omega) D2.out).mono ?_
  rintro e w3 ⟨⟨vto, vtc, vts, vqo, vqc, vq, cv, rfl, hS1⟩, hb3⟩
  have XR3 := hid (XR2.out.later hb3)
  have XA3 := hid (XA2.out.later hb3)
  have D3 := hid (D2.out.later hb3)
  have C3 := hid (C2.out.later hb3)
  have hR3 : Grew p w w3 := hR2.trans (Grew.of_below hb3)
  have hz3 : w2.heap.size ≤ w3.heap.size := hb3.size
  clear XR2 XA2 D2 C2 hb3
  by_cases hc : cv = 0
  · obtain ⟨hS, hE⟩ := hS1 hc
    have E3 := hid hE
    have hv1 := hS.2.1
    have hv2 := hS.2.2.1
    have hc1 : (cv == 0) = true := by simpa using hc
    have hc2 : decide (cv = 0) = true := by simpa using hc
    clear hc hS hE hS1
    have r0 := XR3.out.c 0 rfl
    have rf0 := XR3.out.f 0 rfl
    have r1 := XR3.out.c 1 rfl
    have rf1 := XR3.out.f 1 rfl
    have rz := XR3.out.size
    have a0 := XA3.out.c 0 rfl
    have af0 := XA3.out.f 0 rfl
    have a1 := XA3.out.c 1 rfl
    have af1 := XA3.out.f 1 rfl
    have az := XA3.out.size
    obtain ⟨w4, hV⟩ : ∃ V, V = w3.alloc (.cells #[.slice vto vts.length vtc, .slice vqo vq.length vqc] 26) := ⟨_, rfl⟩
    have XR4 := hid (XR3.out.alloc (.cells #[.slice vto vts.length vtc, .slice vqo vq.length vqc] 26))
    rw [← hV] at XR4
    have XA4 := hid (XA3.out.alloc (.cells #[.slice vto vts.length vtc, .slice vqo vq.length vqc] 26))
    rw [← hV] at XA4
    have D4 := hid (D3.out.later (below1 w3 (.cells #[.slice vto vts.length vtc, .slice vqo vq.length vqc] 26)))
    rw [← hV] at D4
    have E4 := hid (E3.out.later (below1 w3 (.cells #[.slice vto vts.length vtc, .slice vqo vq.length vqc] 26)))
    rw [← hV] at E4
    have C4 := hid (C3.out.later (below1 w3 (.cells #[.slice vto vts.length vtc, .slice vqo vq.length vqc] 26)))
    rw [← hV] at C4
    have hR4 : Grew p w w4 := by rw [hV]; exact hR3.trans (Grew.alloc p _ _)
    have hz4 : w3.heap.size ≤ w4.heap.size := by rw [hV]; simp
    have H4 := hid hV
    clear hV XR3 XA3 D3 E3 C3
    have XX4 : Hid (Bx w4 w3.heap.size [.slice vto vts.length vtc, .slice vqo vq.length vqc]) := by rw [H4.out]; exact Bx.new [.slice vto vts.length vtc, .slice vqo vq.length vqc] _ rfl
    have hy4 : w3.heap.size < w4.heap.size := XX4.out.size
    go_wp2_with fail
    clear r0 rf0 r1 rf1 rz a0 af0 a1 af1 az
    rw [← H4.out]
    clear H4
    refine (one_any 4 p co cap bs k1 sd1 w4 hl (by omega) C4.out).mono ?_
    rintro e w5 ⟨⟨b, rfl⟩, hD⟩
    obtain ⟨k5, sd5, hk5, hC5, hg5, hsz5⟩ := hD.grew
    have XR5 := hid (XR4.out.grew hg5 (by omega))
    have XA5 := hid (XA4.out.grew hg5 (by omega))
    have XX5 := hid (XX4.out.grew hg5 (by omega))
    have D5 := hid (D4.out.grew hg5 (by omega))
    have E5 := hid (E4.out.grew hg5 (by omega))
    have C5 := hid hC5
    have hR5 : Grew p w w5 := hR4.trans hg5
    have hz5 : w4.heap.size ≤ w5.heap.size := hg5.size
    clear XR4 XA4 XX4 D4 E4 C4 hD hg5 hC5 hsz5
    cases b
    · have r0 := XR5.out.c 0 rfl
      have rf0 := XR5.out.f 0 rfl
      have r1 := XR5.out.c 1 rfl
      have rf1 := XR5.out.f 1 rfl
      have rz := XR5.out.size
      have a0 := XA5.out.c 0 rfl
      have af0 := XA5.out.f 0 rfl
      have a1 := XA5.out.c 1 rfl
      have af1 := XA5.out.f 1 rfl
      have az := XA5.out.size
      have x0 := XX5.out.c 0 rfl
      have xf0 := XX5.out.f 0 rfl
      have x1 := XX5.out.c 1 rfl
      have xf1 := XX5.out.f 1 rfl
      have xz := XX5.out.size
      obtain ⟨w6, hV⟩ : ∃ V, V = ((w5.setCell ⟨w1.heap.size, 0, none⟩ (.slice vto vts.length vtc)).setCell ⟨w1.heap.size, 1, none⟩ (.slice vqo vq.length vqc)) := ⟨_, rfl⟩
      have XR6 := hid (((XR5.out.other (a := ⟨w1.heap.size, 0, none⟩) (by dsimp only; omega) (.slice vto vts.length vtc)).other (a := ⟨w1.heap.size, 1, none⟩) (by dsimp only; omega) (.slice vqo vq.length vqc)))
      rw [← hV] at XR6
      have XA6 := hid (((XA5.out.set 0 (.slice vto vts.length vtc)).set 1 (.slice vqo vq.length vqc)))
      rw [← hV] at XA6
      have XX6 := hid (((XX5.out.other (a := ⟨w1.heap.size, 0, none⟩) (by dsimp only; omega) (.slice vto vts.length vtc)).other (a := ⟨w1.heap.size, 1, none⟩) (by dsimp only; omega) (.slice vqo vq.length vqc)))
      rw [← hV] at XX6
      have D6 := hid (((D5.out.setOff (a := ⟨w1.heap.size, 0, none⟩) (by dsimp only; omega) (.slice vto vts.length vtc)).setOff (a := ⟨w1.heap.size, 1, none⟩) (by dsimp only; omega) (.slice vqo vq.length vqc)))
      rw [← hV] at D6
      have E6 := hid (((E5.out.setOff (a := ⟨w1.heap.size, 0, none⟩) (by dsimp only; omega) (.slice vto vts.length vtc)).setOff (a := ⟨w1.heap.size, 1, none⟩) (by dsimp only; omega) (.slice vqo vq.length vqc)))
      rw [← hV] at E6
      have C6 := hid (((C5.out.other (a := ⟨w1.heap.size, 0, none⟩) (by dsimp only; omega) (.slice vto vts.length vtc)).other (a := ⟨w1.heap.size, 1, none⟩) (by dsimp only; omega) (.slice vqo vq.length vqc)))
      rw [← hV] at C6
      have hR6 : Grew p w w6 := by rw [hV]; exact ((hR5.set (a := ⟨w1.heap.size, 0, none⟩) (by dsimp only; omega) (.slice vto vts.length vtc)).set (a := ⟨w1.heap.size, 1, none⟩) (by dsimp only; omega) (.slice vqo vq.length vqc))
      have hz6 : w5.heap.size ≤ w6.heap.size := by rw [hV]; simp
      have H6 := hid hV
      clear hV XR5 XA5 XX5 D5 E5 C5
      go_upto_region 6 with fail
      clear r0 rf0 r1 rf1 rz a0 af0 a1 af1 az x0 xf0 x1 xf1 xz
      rw [← H6.out]
      clear H6
      have r0 := XR6.out.c 0 rfl
      have rf0 := XR6.out.f 0 rfl
      have r1 := XR6.out.c 1 rfl
      have rf1 := XR6.out.f 1 rfl
      have rz := XR6.out.size
      have a0 := XA6.out.c 0 rfl
      have af0 := XA6.out.f 0 rfl
      have a1 := XA6.out.c 1 rfl
      have af1 := XA6.out.f 1 rfl
      have az := XA6.out.size
      have x0 := XX6.out.c 0 rfl
      have xf0 := XX6.out.f 0 rfl
      have x1 := XX6.out.c 1 rfl
      have xf1 := XX6.out.f 1 rfl
      have xz := XX6.out.size
      go_wp2
      have PD0 : w6.drew.cell? ⟨w1.heap.size, 0, none⟩ = some (.slice vto vts.length vtc) := a0
      have PD1 : w6.drew.cell? ⟨w1.heap.size, 1, none⟩ = some (.slice vqo vq.length vqc) := a1
      go_region_law (first
          | (go_simp; go_at_call 14; refine (sized_any p co cap bs k5 sd5 w6.drew hl (by omega) C6.out.drew).mono ?_; rintro e w7 ⟨⟨z, rfl⟩, hD⟩; obtain ⟨k7, sd7, hk7, hC, hg0, hsz⟩ := hD.grew; have hg : Grew p w6 w7 := hg0.from; have XR7 := hid (XR6.out.grew hg (by omega)); have XA7 := hid (XA6.out.grew hg (by omega)); have XX7 := hid (XX6.out.grew hg (by omega)); have D7 := hid (D6.out.grew hg (by omega)); have E7 := hid (E6.out.grew hg (by omega)); have C7 := hid hC; have hR7 : Grew p w w7 := hR6.trans hg; have hz7 : w6.heap.size ≤ w7.heap.size := hg.size; have P7a := XA7.out.c 0 rfl; have P7b := XA7.out.c 1 rfl; have rg0 := XR7.out.c 0 rfl; have rh0 := XR7.out.f 0 rfl; have rg1 := XR7.out.c 1 rfl; have rh1 := XR7.out.f 1 rfl; have ag0 := XA7.out.c 0 rfl; have ah0 := XA7.out.f 0 rfl; have ag1 := XA7.out.c 1 rfl; have ah1 := XA7.out.f 1 rfl; have xg0 := XX7.out.c 0 rfl; have xh0 := XX7.out.f 0 rfl; have xg1 := XX7.out.c 1 rfl; have xh1 := XX7.out.f 1 rfl; clear hD hC hg0 hg hsz))
      all_goals
        go_wp2
        refine bodyPost_ret (v := .tuple #[.agg #[.slice vto vts.length vtc, .slice vqo vq.length vqc], .int .i64 z]) (by simp [results, Try.results4, go_sem, rg0, rg1]) rfl ?_
        exact ⟨⟨vto, vtc, vts, vqo, vqc, vq, z, rfl, ⟨by omega, by omega⟩, ((E7.out.setOff (a := ⟨v.heap.size, 0, none⟩) (by dsimp only; omega) _).setOff (a := ⟨v.heap.size, 1, none⟩) (by dsimp only; omega) _).wide (by omega) (by simp <;> omega)⟩, (((hBv.trans (hR7.below (by omega) (by omega))).setCell (p := ⟨v.heap.size, 0, none⟩) (by simp) _).setCell (p := ⟨v.heap.size, 1, none⟩) (by simp) _)⟩
    · have r0 := XR5.out.c 0 rfl
      have rf0 := XR5.out.f 0 rfl
      have r1 := XR5.out.c 1 rfl
      have rf1 := XR5.out.f 1 rfl
      have rz := XR5.out.size
      have a0 := XA5.out.c 0 rfl
      have af0 := XA5.out.f 0 rfl
      have a1 := XA5.out.c 1 rfl
      have af1 := XA5.out.f 1 rfl
      have az := XA5.out.size
      have x0 := XX5.out.c 0 rfl
      have xf0 := XX5.out.f 0 rfl
      have x1 := XX5.out.c 1 rfl
      have xf1 := XX5.out.f 1 rfl
      have xz := XX5.out.size
      go_upto_region 6 with fail
      clear r0 rf0 r1 rf1 rz a0 af0 a1 af1 az x0 xf0 x1 xf1 xz
      have r0 := XR5.out.c 0 rfl
      have rf0 := XR5.out.f 0 rfl
      have r1 := XR5.out.c 1 rfl
      have rf1 := XR5.out.f 1 rfl
      have rz := XR5.out.size
      have a0 := XA5.out.c 0 rfl
      have af0 := XA5.out.f 0 rfl
      have a1 := XA5.out.c 1 rfl
      have af1 := XA5.out.f 1 rfl
      have az := XA5.out.size
      have x0 := XX5.out.c 0 rfl
      have xf0 := XX5.out.f 0 rfl
      have x1 := XX5.out.c 1 rfl
      have xf1 := XX5.out.f 1 rfl
      have xz := XX5.out.size
      go_wp2
      have PD0 : w5.drew.cell? ⟨w1.heap.size, 0, none⟩ = some (.slice to ts.length tc) := a0
      have PD1 : w5.drew.cell? ⟨w1.heap.size, 1, none⟩ = some (.slice qo q.length qc) := a1
      go_region_law (first
          | (go_simp; go_at_call 14; refine (sized_any p co cap bs k5 sd5 w5.drew hl (by omega) C5.out.drew).mono ?_; rintro e w6 ⟨⟨z, rfl⟩, hD⟩; obtain ⟨k6, sd6, hk6, hC, hg0, hsz⟩ := hD.grew; have hg : Grew p w5 w6 := hg0.from; have XR6 := hid (XR5.out.grew hg (by omega)); have XA6 := hid (XA5.out.grew hg (by omega)); have XX6 := hid (XX5.out.grew hg (by omega)); have D6 := hid (D5.out.grew hg (by omega)); have E6 := hid (E5.out.grew hg (by omega)); have C6 := hid hC; have hR6 : Grew p w w6 := hR5.trans hg; have hz6 : w5.heap.size ≤ w6.heap.size := hg.size; have P6a := XA6.out.c 0 rfl; have P6b := XA6.out.c 1 rfl; have rg0 := XR6.out.c 0 rfl; have rh0 := XR6.out.f 0 rfl; have rg1 := XR6.out.c 1 rfl; have rh1 := XR6.out.f 1 rfl; have ag0 := XA6.out.c 0 rfl; have ah0 := XA6.out.f 0 rfl; have ag1 := XA6.out.c 1 rfl; have ah1 := XA6.out.f 1 rfl; have xg0 := XX6.out.c 0 rfl; have xh0 := XX6.out.f 0 rfl; have xg1 := XX6.out.c 1 rfl; have xh1 := XX6.out.f 1 rfl; clear hD hC hg0 hg hsz))
      all_goals
        go_wp2
        refine bodyPost_ret (v := .tuple #[.agg #[.slice to ts.length tc, .slice qo q.length qc], .int .i64 z]) (by simp [results, Try.results4, go_sem, rg0, rg1]) rfl ?_
        exact ⟨⟨to, tc, ts, qo, qc, q, z, rfl, ⟨by omega, by omega⟩, ((D6.out.setOff (a := ⟨v.heap.size, 0, none⟩) (by dsimp only; omega) _).setOff (a := ⟨v.heap.size, 1, none⟩) (by dsimp only; omega) _).wide (by omega) (by simp <;> omega)⟩, (((hBv.trans (hR6.below (by omega) (by omega))).setCell (p := ⟨v.heap.size, 0, none⟩) (by simp) _).setCell (p := ⟨v.heap.size, 1, none⟩) (by simp) _)⟩
  · have hc1 : (cv == 0) = false := by simpa using hc
    have hc2 : decide (cv = 0) = false := by simpa using hc
    clear hc hS1
    have r0 := XR3.out.c 0 rfl
    have rf0 := XR3.out.f 0 rfl
    have r1 := XR3.out.c 1 rfl
    have rf1 := XR3.out.f 1 rfl
    have rz := XR3.out.size
    have a0 := XA3.out.c 0 rfl
    have af0 := XA3.out.f 0 rfl
    have a1 := XA3.out.c 1 rfl
    have af1 := XA3.out.f 1 rfl
    have az := XA3.out.size
    obtain ⟨w4, hV⟩ : ∃ V, V = w3.alloc (.cells #[.slice vto vts.length vtc, .slice vqo vq.length vqc] 26) := ⟨_, rfl⟩
    have XR4 := hid (XR3.out.alloc (.cells #[.slice vto vts.length vtc, .slice vqo vq.length vqc] 26))
    rw [← hV] at XR4
    have XA4 := hid (XA3.out.alloc (.cells #[.slice vto vts.length vtc, .slice vqo vq.length vqc] 26))
    rw [← hV] at XA4
    have D4 := hid (D3.out.later (below1 w3 (.cells #[.slice vto vts.length vtc, .slice vqo vq.length vqc] 26)))
    rw [← hV] at D4
    have C4 := hid (C3.out.later (below1 w3 (.cells #[.slice vto vts.length vtc, .slice vqo vq.length vqc] 26)))
    rw [← hV] at C4
    have hR4 : Grew p w w4 := by rw [hV]; exact hR3.trans (Grew.alloc p _ _)
    have hz4 : w3.heap.size ≤ w4.heap.size := by rw [hV]; simp
    have H4 := hid hV
    clear hV XR3 XA3 D3 C3
    have XX4 : Hid (Bx w4 w3.heap.size [.slice vto vts.length vtc, .slice vqo vq.length vqc]) := by rw [H4.out]; exact Bx.new [.slice vto vts.length vtc, .slice vqo vq.length vqc] _ rfl
    have hy4 : w3.heap.size < w4.heap.size := XX4.out.size
    go_upto_region 6 with fail
    clear r0 rf0 r1 rf1 rz a0 af0 a1 af1 az
    rw [← H4.out]
    clear H4
    have r0 := XR4.out.c 0 rfl
    have rf0 := XR4.out.f 0 rfl
    have r1 := XR4.out.c 1 rfl
    have rf1 := XR4.out.f 1 rfl
    have rz := XR4.out.size
    have a0 := XA4.out.c 0 rfl
    have af0 := XA4.out.f 0 rfl
    have a1 := XA4.out.c 1 rfl
    have af1 := XA4.out.f 1 rfl
    have az := XA4.out.size
    have x0 := XX4.out.c 0 rfl
    have xf0 := XX4.out.f 0 rfl
    have x1 := XX4.out.c 1 rfl
    have xf1 := XX4.out.f 1 rfl
    have xz := XX4.out.size
    go_wp2
    have PD0 : w4.drew.cell? ⟨w1.heap.size, 0, none⟩ = some (.slice to ts.length tc) := a0
    have PD1 : w4.drew.cell? ⟨w1.heap.size, 1, none⟩ = some (.slice qo q.length qc) := a1
    go_region_law (first
        | (go_simp; go_at_call 14; refine (sized_any p co cap bs k1 sd1 w4.drew hl (by omega) C4.out.drew).mono ?_; rintro e w5 ⟨⟨z, rfl⟩, hD⟩; obtain ⟨k5, sd5, hk5, hC, hg0, hsz⟩ := hD.grew; have hg : Grew p w4 w5 := hg0.from; have XR5 := hid (XR4.out.grew hg (by omega)); have XA5 := hid (XA4.out.grew hg (by omega)); have XX5 := hid (XX4.out.grew hg (by omega)); have D5 := hid (D4.out.grew hg (by omega)); have C5 := hid hC; have hR5 : Grew p w w5 := hR4.trans hg; have hz5 : w4.heap.size ≤ w5.heap.size := hg.size; have P5a := XA5.out.c 0 rfl; have P5b := XA5.out.c 1 rfl; have rg0 := XR5.out.c 0 rfl; have rh0 := XR5.out.f 0 rfl; have rg1 := XR5.out.c 1 rfl; have rh1 := XR5.out.f 1 rfl; have ag0 := XA5.out.c 0 rfl; have ah0 := XA5.out.f 0 rfl; have ag1 := XA5.out.c 1 rfl; have ah1 := XA5.out.f 1 rfl; have xg0 := XX5.out.c 0 rfl; have xh0 := XX5.out.f 0 rfl; have xg1 := XX5.out.c 1 rfl; have xh1 := XX5.out.f 1 rfl; clear hD hC hg0 hg hsz))
    all_goals
      go_wp2
      refine bodyPost_ret (v := .tuple #[.agg #[.slice to ts.length tc, .slice qo q.length qc], .int .i64 z]) (by simp [results, Try.results4, go_sem, rg0, rg1]) rfl ?_
      exact ⟨⟨to, tc, ts, qo, qc, q, z, rfl, ⟨by omega, by omega⟩, ((D5.out.setOff (a := ⟨v.heap.size, 0, none⟩) (by dsimp only; omega) _).setOff (a := ⟨v.heap.size, 1, none⟩) (by dsimp only; omega) _).wide (by omega) (by simp <;> omega)⟩, (((hBv.trans (hR5.below (by omega) (by omega))).setCell (p := ⟨v.heap.size, 0, none⟩) (by simp) _).setCell (p := ⟨v.heap.size, 1, none⟩) (by simp) _)⟩
end Go.Proofs.Ytgbnbnjfaffaiaa
