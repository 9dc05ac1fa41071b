
/- DrawAdvanceTo from a text of bytes. No conditions but those written. -/
import Derived.Test.YtpbgkkemaioidaaXl
import Derived.Test.YtpbgkkemaioidaaXd
import Derived.Deep.Cut
import Derived.Deep.DeepCutAuto
import Derived.Deep.RegionLaw
namespace Go.Proofs.Ytpbgkkemaioidaa
open Go.RowKit

theorem BytesIn.later {n m : Nat} {W W' : World} {co : Option Addr} {bs : List Int} (h : BytesIn n W co bs) (hb : Below n W W') (hm : n ≤ m) : BytesIn m W' co bs := by
  rcases h with h | ⟨b, off, e, hbn, hc⟩
  · exact .inl h
  · exact .inr ⟨b, off, e, by omega, fun j hj => ⟨(World.cell?_of_block (a := ⟨b, off + j, none⟩) (hb.block b hbn)).trans (hc j hj).1, (hc j hj).2⟩⟩
theorem Cur.of {W : World} {p : Nat} {co : Option Addr} {cap : Nat} {bs : List Int} {k : Nat} {sd : Int} (h : Bx W p [.slice co bs.length cap, .int .i64 (k : Int), .int .u64 sd]) (hb : BytesIn p W co bs) : Cur W p co cap bs k sd := ⟨h.1, ⟨h.c 0 rfl, h.c 1 rfl, h.c 2 rfl⟩, ⟨h.f 0 rfl, h.f 1 rfl, h.f 2 rfl⟩, hb⟩
set_option maxRecDepth 10000 in
set_option maxHeartbeats 16000000 in
theorem drawAdv_any (co : Option Addr) (cap : Nat) (bs : List Int) (v : World) (hl : bs.length ≤ 9223372036854775807) (hb : BytesIn v.heap.size v co bs) :
    Calls Try.prog 4 #[.slice co bs.length cap] v fun e w' => (∃ (now sq : Int) (ta : Option Addr) (tc : Nat) (ts : List Old.T3) (t : Int), e = .returned (.tuple #[.agg #[.int .i64 now, .int .i64 sq, .slice ta ts.length tc], .int .i64 t]) ∧ (Old.I64 now ∧ Old.I64 t ∧ ts.length ≤ 31) ∧ CW v.heap.size w'.heap.size w' ta tc ts) ∧ Below v.heap.size v w' := by
  obtain ⟨w, hw⟩ : ∃ w, w = (v.alloc (.cells #[.int .i64 0, .int .i64 0, .slice none 0 0] 25)).alloc (.cells #[.slice co bs.length cap, .int .i64 0, .int .u64 0] 39) := ⟨_, rfl⟩
  have hBv : Below v.heap.size v w := by rw [hw]; exact Below.allocS (Below.allocS (Below.refl _ _) _) _
  have XR0 : Hid (Bx w v.heap.size [.int .i64 0, .int .i64 0, .slice none 0 0]) := by rw [hw]; exact Bx.alloc (Bx.new [.int .i64 0, .int .i64 0, .slice none 0 0] _ rfl) _
  have XC : Bx w (v.heap.size + 1) [.slice co bs.length cap, .int .i64 ((0 : Nat) : Int), .int .u64 0] := by rw [hw]; exact Bx.new [.slice co bs.length cap, .int .i64 0, .int .u64 0] _ (by simp)
  have hvw : v.heap.size + 1 + 1 ≤ w.heap.size := by rw [hw]; simp
  have HW := hid hw
  clear hw
  have C0 := hid (Cur.of XC (hb.later hBv (by omega)))
  clear XC
  go_enter Try.func4, Try.ntmps4
  go_wp2_with fail
  rw [← HW.out]
  clear HW
  obtain ⟨p, hpe⟩ : ∃ p, p = v.heap.size + 1 := ⟨_, rfl⟩
  rw [← hpe] at C0
  rw [← hpe]
  have hp : p < w.heap.size := by omega
  have hvp : v.heap.size ≤ p := by omega
  have hvn : v.heap.size ≠ p := by omega
  clear hpe
  have hR0 := Grew.refl p w
  refine (clock_any p co cap bs 0 0 w hl (by omega) C0.out).mono ?_
  rintro e w1 ⟨⟨now, sq, ta, tc, ts, rfl, hS, hD0⟩, k1, sd1, hk1, hC1, hg1⟩
  have XR1 := hid (XR0.out.grew hg1 (by omega))
  have C1 := hid hC1
  have hR1 : Grew p w w1 := hR0.trans hg1
  have hz1 : w.heap.size ≤ w1.heap.size := hg1.size
  clear XR0 C0 hg1 hC1
  have D1 := hid hD0
  clear hD0
  obtain ⟨hs1, hs2⟩ := hS
  have r0 := XR1.out.c 0 rfl
  have rf0 := XR1.out.f 0 rfl
  have r1 := XR1.out.c 1 rfl
  have rf1 := XR1.out.f 1 rfl
  have r2 := XR1.out.c 2 rfl
  have rf2 := XR1.out.f 2 rfl
  have rz := XR1.out.size
  obtain ⟨w2, hV⟩ : ∃ V, V = w1.alloc (.cells #[.int .i64 now, .int .i64 sq, .slice ta ts.length tc] 25) := ⟨_, rfl⟩
  have XR2 := hid (XR1.out.alloc (.cells #[.int .i64 now, .int .i64 sq, .slice ta ts.length tc] 25))
  rw [← hV] at XR2
  have D2 := hid (D1.out.later (below1 w1 (.cells #[.int .i64 now, .int .i64 sq, .slice ta ts.length tc] 25)))
  rw [← hV] at D2
  have C2 := hid (C1.out.later (below1 w1 (.cells #[.int .i64 now, .int .i64 sq, .slice ta ts.length tc] 25)))
  rw [← hV] at C2
  have hR2 : Grew p w w2 := by rw [hV]; exact hR1.trans (Grew.alloc p _ _)
  have hz2 : w1.heap.size ≤ w2.heap.size := by rw [hV]; simp
  have H2 := hid hV
  clear hV XR1 D1 C1
  have XA2 : Hid (Bx w2 w1.heap.size [.int .i64 now, .int .i64 sq, .slice ta ts.length tc]) := by rw [H2.out]; exact Bx.new [.int .i64 now, .int .i64 sq, .slice ta ts.length tc] _ rfl
  have hy2 : w1.heap.size < w2.heap.size := XA2.out.size
  go_wp2_with fail
  clear r0 rf0 r1 rf1 r2 rf2 rz
  rw [← H2.out]
  clear H2
  refine (pick_any 40 p co cap bs k1 sd1 w2 hl (by omega) C2.out).mono ?_
  rintro e w3 ⟨⟨t0, rfl, h0t0, h1t0⟩, hD⟩
  obtain ⟨k3, sd3, hk3, hC3, hg3, hsz3⟩ := hD.grew
  have XR3 := hid (XR2.out.grew hg3 (by omega))
  have XA3 := hid (XA2.out.grew hg3 (by omega))
  have D3 := hid (D2.out.grew hg3 (by omega))
  have C3 := hid hC3
  have hR3 : Grew p w w3 := hR2.trans hg3
  have hz3 : w2.heap.size ≤ w3.heap.size := hg3.size
  clear XR2 XA2 D2 C2 hD hg3 hC3 hsz3
  have r0 := XR3.out.c 0 rfl
  have rf0 := XR3.out.f 0 rfl
  have r1 := XR3.out.c 1 rfl
  have rf1 := XR3.out.f 1 rfl
  have r2 := XR3.out.c 2 rfl
  have rf2 := XR3.out.f 2 rfl
  have rz := XR3.out.size
  have a0 := XA3.out.c 0 rfl
  have af0 := XA3.out.f 0 rfl
  have a1 := XA3.out.c 1 rfl
  have af1 := XA3.out.f 1 rfl
  have a2 := XA3.out.c 2 rfl
  have af2 := XA3.out.f 2 rfl
  have az := XA3.out.size
  go_wp2_with fail
  clear r0 rf0 r1 rf1 r2 rf2 rz a0 af0 a1 af1 a2 af2 az
  refine (one_any 8 p co cap bs k3 sd3 w3 hl (by omega) C3.out).mono ?_
  rintro e w4 ⟨⟨b, rfl⟩, hD⟩
  obtain ⟨k4, sd4, hk4, hC4, hg4, hsz4⟩ := hD.grew
  have XR4 := hid (XR3.out.grew hg4 (by omega))
  have XA4 := hid (XA3.out.grew hg4 (by omega))
  have D4 := hid (D3.out.grew hg4 (by omega))
  have C4 := hid hC4
  have hR4 : Grew p w w4 := hR3.trans hg4
  have hz4 : w3.heap.size ≤ w4.heap.size := hg4.size
  clear XR3 XA3 D3 C3 hD hg4 hC4 hsz4
  have r0 := XR4.out.c 0 rfl
  have rf0 := XR4.out.f 0 rfl
  have r1 := XR4.out.c 1 rfl
  have rf1 := XR4.out.f 1 rfl
  have r2 := XR4.out.c 2 rfl
  have rf2 := XR4.out.f 2 rfl
  have rz := XR4.out.size
  have a0 := XA4.out.c 0 rfl
  have af0 := XA4.out.f 0 rfl
  have a1 := XA4.out.c 1 rfl
  have af1 := XA4.out.f 1 rfl
  have a2 := XA4.out.c 2 rfl
  have af2 := XA4.out.f 2 rfl
  have az := XA4.out.size
  go_upto_if 15 with fail
  clear r0 rf0 r1 rf1 r2 rf2 rz a0 af0 a1 af1 a2 af2 az
  go_cut [6] (fun s6 wx => ∃ (t : Int) (k2 : Nat) (sd2 : Int), s6 = .int .i64 t ∧ Old.I64 t ∧ k2 ≤ 600 ∧ Hid (Bx wx v.heap.size [.int .i64 0, .int .i64 0, .slice none 0 0]) ∧ Hid (Bx wx w1.heap.size [.int .i64 now, .int .i64 sq, .slice ta ts.length tc]) ∧ Hid (CW w.heap.size w1.heap.size wx ta tc ts) ∧ Hid (Cur wx p co cap bs k2 sd2) ∧ Grew p w wx ∧ w1.heap.size + 1 ≤ wx.heap.size)
  case first =>
    cases b
    · have r0 := XR4.out.c 0 rfl
      have rf0 := XR4.out.f 0 rfl
      have r1 := XR4.out.c 1 rfl
      have rf1 := XR4.out.f 1 rfl
      have r2 := XR4.out.c 2 rfl
      have rf2 := XR4.out.f 2 rfl
      have rz := XR4.out.size
      have a0 := XA4.out.c 0 rfl
      have af0 := XA4.out.f 0 rfl
      have a1 := XA4.out.c 1 rfl
      have af1 := XA4.out.f 1 rfl
      have a2 := XA4.out.c 2 rfl
      have af2 := XA4.out.f 2 rfl
      have az := XA4.out.size
      go_wp2_with fail
      clear r0 rf0 r1 rf1 r2 rf2 rz a0 af0 a1 af1 a2 af2 az
      go_meet
      exact ⟨t0, k4, sd4, rfl, by unfold Old.I64; omega, by omega, XR4, XA4, D4, C4, hR4, by have := XA4.out.size; omega⟩
    · have r0 := XR4.out.c 0 rfl
      have rf0 := XR4.out.f 0 rfl
      have r1 := XR4.out.c 1 rfl
      have rf1 := XR4.out.f 1 rfl
      have r2 := XR4.out.c 2 rfl
      have rf2 := XR4.out.f 2 rfl
      have rz := XR4.out.size
      have a0 := XA4.out.c 0 rfl
      have af0 := XA4.out.f 0 rfl
      have a1 := XA4.out.c 1 rfl
      have af1 := XA4.out.f 1 rfl
      have a2 := XA4.out.c 2 rfl
      have af2 := XA4.out.f 2 rfl
      have az := XA4.out.size
      go_wp2_with fail
      clear r0 rf0 r1 rf1 r2 rf2 rz a0 af0 a1 af1 a2 af2 az
      refine (sized_any p co cap bs k4 sd4 w4 hl (by omega) C4.out).mono ?_
      rintro e w5 ⟨⟨z, rfl, hz6⟩, hD⟩
      obtain ⟨k5, sd5, hk5, hC5, hg5, hsz5⟩ := hD.grew
      have XR5 := hid (XR4.out.grew hg5 (by omega))
      have XA5 := hid (XA4.out.grew hg5 (by omega))
      have D5 := hid (D4.out.grew hg5 (by omega))
      have C5 := hid hC5
      have hR5 : Grew p w w5 := hR4.trans hg5
      have hz5 : w4.heap.size ≤ w5.heap.size := hg5.size
      clear XR4 XA4 D4 C4 hD hg5 hC5 hsz5
      have r0 := XR5.out.c 0 rfl
      have rf0 := XR5.out.f 0 rfl
      have r1 := XR5.out.c 1 rfl
      have rf1 := XR5.out.f 1 rfl
      have r2 := XR5.out.c 2 rfl
      have rf2 := XR5.out.f 2 rfl
      have rz := XR5.out.size
      have a0 := XA5.out.c 0 rfl
      have af0 := XA5.out.f 0 rfl
      have a1 := XA5.out.c 1 rfl
      have af1 := XA5.out.f 1 rfl
      have a2 := XA5.out.c 2 rfl
      have af2 := XA5.out.f 2 rfl
      have az := XA5.out.size
      go_wp2_with fail
      clear r0 rf0 r1 rf1 r2 rf2 rz a0 af0 a1 af1 a2 af2 az
      go_meet
      exact ⟨z, k5, sd5, rfl, hz6, by omega, XR5, XA5, D5, C5, hR5, by have := XA5.out.size; omega⟩
  case rest =>
    clear XR4 XA4 C4 D4 hR4 h0t0 h1t0
    obtain ⟨t, k0, sd0, rfl, ht, hk0, XR14, XA14, D14, C14, hR14, hsz0⟩ := hcut
    by_cases hn1 : 100 < now
    · have hn2 : decide (100 < now) = true := by simpa using hn1
      have r0 := XR14.out.c 0 rfl
      have rf0 := XR14.out.f 0 rfl
      have r1 := XR14.out.c 1 rfl
      have rf1 := XR14.out.f 1 rfl
      have r2 := XR14.out.c 2 rfl
      have rf2 := XR14.out.f 2 rfl
      have rz := XR14.out.size
      have a0 := XA14.out.c 0 rfl
      have af0 := XA14.out.f 0 rfl
      have a1 := XA14.out.c 1 rfl
      have af1 := XA14.out.f 1 rfl
      have a2 := XA14.out.c 2 rfl
      have af2 := XA14.out.f 2 rfl
      have az := XA14.out.size
      go_wp2_with fail
      clear r0 rf0 r1 rf1 r2 rf2 rz a0 af0 a1 af1 a2 af2 az
      refine (one_any 2 p co cap bs k0 sd0 wc hl (by omega) C14.out).mono ?_
      rintro e w15 ⟨⟨b2, rfl⟩, hD⟩
      obtain ⟨k15, sd15, hk15, hC15, hg15, hsz15⟩ := hD.grew
      have XR15 := hid (XR14.out.grew hg15 (by omega))
      have XA15 := hid (XA14.out.grew hg15 (by omega))
      have D15 := hid (D14.out.grew hg15 (by omega))
      have C15 := hid hC15
      have hR15 : Grew p w w15 := hR14.trans hg15
      have hz15 : wc.heap.size ≤ w15.heap.size := hg15.size
      clear XR14 XA14 D14 C14 hD hg15 hC15 hsz15
      cases b2
      · have r0 := XR15.out.c 0 rfl
        have rf0 := XR15.out.f 0 rfl
        have r1 := XR15.out.c 1 rfl
        have rf1 := XR15.out.f 1 rfl
        have r2 := XR15.out.c 2 rfl
        have rf2 := XR15.out.f 2 rfl
        have rz := XR15.out.size
        have a0 := XA15.out.c 0 rfl
        have af0 := XA15.out.f 0 rfl
        have a1 := XA15.out.c 1 rfl
        have af1 := XA15.out.f 1 rfl
        have a2 := XA15.out.c 2 rfl
        have af2 := XA15.out.f 2 rfl
        have az := XA15.out.size
        go_wp2
        refine bodyPost_ret (v := .tuple #[.agg #[.int .i64 now, .int .i64 sq, .slice ta ts.length tc], .int .i64 t]) (by simp [results, Try.results4, go_sem, r0, r1, r2]) rfl ?_
        exact ⟨⟨now, sq, ta, tc, ts, t, rfl, ⟨hs1, ht, by omega⟩, (((D15.out.setOff (a := ⟨v.heap.size, 0, none⟩) (by dsimp only; omega) _).setOff (a := ⟨v.heap.size, 1, none⟩) (by dsimp only; omega) _).setOff (a := ⟨v.heap.size, 2, none⟩) (by dsimp only; omega) _).wide (by omega) (by simp <;> omega)⟩, ((((hBv.trans (hR15.below (by omega) (by omega))).setCell (p := ⟨v.heap.size, 0, none⟩) (by simp) _).setCell (p := ⟨v.heap.size, 1, none⟩) (by simp) _).setCell (p := ⟨v.heap.size, 2, none⟩) (by simp) _)⟩
      · have r0 := XR15.out.c 0 rfl
        have rf0 := XR15.out.f 0 rfl
        have r1 := XR15.out.c 1 rfl
        have rf1 := XR15.out.f 1 rfl
        have r2 := XR15.out.c 2 rfl
        have rf2 := XR15.out.f 2 rfl
        have rz := XR15.out.size
        have a0 := XA15.out.c 0 rfl
        have af0 := XA15.out.f 0 rfl
        have a1 := XA15.out.c 1 rfl
        have af1 := XA15.out.f 1 rfl
        have a2 := XA15.out.c 2 rfl
        have af2 := XA15.out.f 2 rfl
        have az := XA15.out.size
        go_wp2
        refine bodyPost_ret (v := .tuple #[.agg #[.int .i64 now, .int .i64 sq, .slice ta ts.length tc], .int .i64 9223372036854775807]) (by simp [results, Try.results4, go_sem, r0, r1, r2]) rfl ?_
        exact ⟨⟨now, sq, ta, tc, ts, 9223372036854775807, rfl, ⟨hs1, by unfold Old.I64; omega, by omega⟩, (((D15.out.setOff (a := ⟨v.heap.size, 0, none⟩) (by dsimp only; omega) _).setOff (a := ⟨v.heap.size, 1, none⟩) (by dsimp only; omega) _).setOff (a := ⟨v.heap.size, 2, none⟩) (by dsimp only; omega) _).wide (by omega) (by simp <;> omega)⟩, ((((hBv.trans (hR15.below (by omega) (by omega))).setCell (p := ⟨v.heap.size, 0, none⟩) (by simp) _).setCell (p := ⟨v.heap.size, 1, none⟩) (by simp) _).setCell (p := ⟨v.heap.size, 2, none⟩) (by simp) _)⟩
    · have hn2 : decide (100 < now) = false := by simpa using hn1
      have r0 := XR14.out.c 0 rfl
      have rf0 := XR14.out.f 0 rfl
      have r1 := XR14.out.c 1 rfl
      have rf1 := XR14.out.f 1 rfl
      have r2 := XR14.out.c 2 rfl
      have rf2 := XR14.out.f 2 rfl
      have rz := XR14.out.size
      have a0 := XA14.out.c 0 rfl
      have af0 := XA14.out.f 0 rfl
      have a1 := XA14.out.c 1 rfl
      have af1 := XA14.out.f 1 rfl
      have a2 := XA14.out.c 2 rfl
      have af2 := XA14.out.f 2 rfl
      have az := XA14.out.size
      go_wp2
      refine bodyPost_ret (v := .tuple #[.agg #[.int .i64 now, .int .i64 sq, .slice ta ts.length tc], .int .i64 t]) (by simp [results, Try.results4, go_sem, r0, r1, r2]) rfl ?_
      exact ⟨⟨now, sq, ta, tc, ts, t, rfl, ⟨hs1, ht, by omega⟩, (((D14.out.setOff (a := ⟨v.heap.size, 0, none⟩) (by dsimp only; omega) _).setOff (a := ⟨v.heap.size, 1, none⟩) (by dsimp only; omega) _).setOff (a := ⟨v.heap.size, 2, none⟩) (by dsimp only; omega) _).wide (by omega) (by simp <;> omega)⟩, ((((hBv.trans (hR14.below (by omega) (by omega))).setCell (p := ⟨v.heap.size, 0, none⟩) (by simp) _).setCell (p := ⟨v.heap.size, 1, none⟩) (by simp) _).setCell (p := ⟨v.heap.size, 2, none⟩) (by simp) _)⟩
end Go.Proofs.Ytpbgkkemaioidaa
