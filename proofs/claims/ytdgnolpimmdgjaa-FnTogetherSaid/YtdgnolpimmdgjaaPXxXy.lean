/- Drawn groups, rooms and scopes from a text of bytes. No conditions but those written. The law's callees with their answers written out. No conditions but those written. -/
import Derived.Test.YtdgnolpimmdgjaaPXuMe
import Derived.Test.YtdgnolpimmdgjaaXv
import Derived.Test.YtdgnolpimmdgjaaXw
import Derived.Test.YtdgnolpimmdgjaaPGfXa
import Derived.Test.YtdgnolpimmdgjaaPMhMi
namespace Go.Proofs.Ytdgnolpimmdgjaa
section
open Go.RowKit

theorem BytesIn.later {n m : Nat} {W W' : World} {co : Option Addr} {bs : List Int} (h : BytesIn n W co bs) (hb : Below n W W') (hm : n ≤ m) : BytesIn m W' co bs := by
  rcases h with h | ⟨b, off, e, hbn, hc⟩
  · exact .inl h
  · exact .inr ⟨b, off, e, by omega, fun j hj => ⟨(World.cell?_of_block (a := ⟨b, off + j, none⟩) (hb.block b hbn)).trans (hc j hj).1, (hc j hj).2⟩⟩
theorem Cur.of {W : World} {p : Nat} {co : Option Addr} {cap : Nat} {bs : List Int} {k : Nat} {sd : Int} (h : Bx W p [.slice co bs.length cap, .int .i64 (k : Int), .int .u64 sd]) (hb : BytesIn p W co bs) : Cur W p co cap bs k sd := ⟨h.1, ⟨h.c 0 rfl, h.c 1 rfl, h.c 2 rfl⟩, ⟨h.f 0 rfl, h.f 1 rfl, h.f 2 rfl⟩, hb⟩
set_option maxRecDepth 10000 in
set_option maxHeartbeats 2000000 in
theorem idIn_any (n : Nat) (p : Nat) (co : Option Addr) (cap : Nat) (bs : List Int) (k : Nat) (sd : Int) (w : World) (hl : bs.length ≤ 9223372036854775807) (hn : n ≤ 1048576) (ha : k ≤ 1000000000) (hC : Cur w p co cap bs k sd) :
    Calls Try.prog 36 #[.pointer (some ⟨p, 0, none⟩), .int .i64 (n : Int)] w fun e w' => (∃ z, e = .returned (.int .i64 z)) ∧ DrawnG w p co cap bs k 10 w' := by
  have hp := hC.1
  have C0 := hid hC
  have hR0 := Grew.refl p w
  clear hC
  go_enter Try.func36, Try.ntmps36
  go_wp2_with fail
  refine (one_any 12 p co cap bs k sd w hl (by omega) C0.out).mono ?_
  rintro e w1 ⟨⟨b, rfl⟩, hD⟩
  obtain ⟨k1, sd1, hk1, hC1, hg1, hsz1⟩ := hD.grew
  have C1 := hid hC1
  have hR1 : Grew p w w1 := hR0.trans hg1
  have hz1 : w.heap.size ≤ w1.heap.size := hg1.size
  clear C0 hD hg1 hC1 hsz1
  cases b
  · go_wp2_with fail
    refine (pick_any _ p co cap bs k1 sd1 w1 hl (by omega) C1.out).mono ?_
    rintro e w2 ⟨⟨z, rfl, h0z, h1z⟩, hD⟩
    obtain ⟨k2, sd2, hk2, hC2, hg2, hsz2⟩ := hD.grew
    have C2 := hid hC2
    have hR2 : Grew p w w2 := hR1.trans hg2
    have hz2 : w1.heap.size ≤ w2.heap.size := hg2.size
    clear C1 hD hg2 hC2 hsz2
    go_wp2
    go_ret
    exact ⟨⟨z, rfl⟩, k2, sd2, by omega, C2.out, hR2⟩
  · obtain ⟨w2, hV⟩ : ∃ V, V = w1.alloc (.cells #[.int .i64 (-1), .int .i64 (n : Int), .int .i64 9223372036854775807] 3) := ⟨_, rfl⟩
    have C2 := hid (C1.out.later (below1 w1 (.cells #[.int .i64 (-1), .int .i64 (n : Int), .int .i64 9223372036854775807] 3)))
    rw [← hV] at C2
    have hR2 : Grew p w w2 := by rw [hV]; exact hR1.trans (Grew.alloc p _ _)
    have hz2 : w1.heap.size ≤ w2.heap.size := by rw [hV]; simp
    have H2 := hid hV
    clear hV C1
    have XU2 : Hid (Bx w2 w1.heap.size [.int .i64 (-1), .int .i64 (n : Int), .int .i64 9223372036854775807]) := by rw [H2.out]; exact Bx.new [.int .i64 (-1), .int .i64 (n : Int), .int .i64 9223372036854775807] _ rfl
    have hy2 : w1.heap.size < w2.heap.size := XU2.out.size
    have u0 := XU2.out.c 0 rfl
    have uf0 := XU2.out.f 0 rfl
    have u1 := XU2.out.c 1 rfl
    have uf1 := XU2.out.f 1 rfl
    have u2 := XU2.out.c 2 rfl
    have uf2 := XU2.out.f 2 rfl
    have uz := XU2.out.size
    go_wp2_with fail
    clear u0 uf0 u1 uf1 u2 uf2 uz
    rw [← H2.out]
    clear H2
    refine (among_in [-1, (n : Int), 9223372036854775807] w1.heap.size p co cap bs k1 sd1 w2 hl (by omega) C2.out (by simp) (by simp) XU2.out (by omega)).mono ?_
    rintro e w3 ⟨⟨z, _, rfl⟩, hD⟩
    obtain ⟨k3, sd3, hk3, hC3, hg3, hsz3⟩ := hD.grew
    have XU3 := hid (XU2.out.grew hg3 (by omega))
    have C3 := hid hC3
    have hR3 : Grew p w w3 := hR2.trans hg3
    have hz3 : w2.heap.size ≤ w3.heap.size := hg3.size
    clear XU2 C2 hD hg3 hC3 hsz3
    go_wp2
    go_ret
    exact ⟨⟨z, rfl⟩, k3, sd3, by omega, C3.out, hR3⟩
set_option maxRecDepth 10000 in
set_option maxHeartbeats 4000000 in
theorem drawAdd_any (co : Option Addr) (cap : Nat) (bs : List Int) (v : World) (hl : bs.length ≤ 9223372036854775807) (hb : BytesIn v.heap.size v co bs) :
    Calls Try.prog 4 #[.slice co bs.length cap] v fun e w' => (∃ (cnt : Int) (ao : Option Addr) (c : Nat) (q : List Int) (iv : Int), e = .returned (.tuple #[.agg #[.int .i64 cnt, .slice ao q.length c], .int .i64 iv]) ∧ q.length ≤ 10 ∧ kI.RW v.heap.size w'.heap.size w' ao c q) ∧ Below v.heap.size v w' := by
  obtain ⟨w, hw⟩ : ∃ w, w = (v.alloc (.cells #[.int .i64 0, .slice none 0 0] 25)).alloc (.cells #[.slice co bs.length cap, .int .i64 0, .int .u64 0] 53) := ⟨_, rfl⟩
  have hBv : Below v.heap.size v w := by rw [hw]; exact Below.allocS (Below.allocS (Below.refl _ _) _) _
  have XR0 : Hid (Bx w v.heap.size [.int .i64 0, .slice none 0 0]) := by rw [hw]; exact Bx.alloc (Bx.new [.int .i64 0, .slice none 0 0] _ rfl) _
  have XC : Bx w (v.heap.size + 1) [.slice co bs.length cap, .int .i64 ((0 : Nat) : Int), .int .u64 0] := by rw [hw]; exact Bx.new [.slice co bs.length cap, .int .i64 0, .int .u64 0] _ (by simp)
  have hvw : v.heap.size + 1 + 1 ≤ w.heap.size := by rw [hw]; simp
  have HW := hid hw
  clear hw
  have C0 := hid (Cur.of XC (hb.later hBv (by omega)))
  clear XC
  go_enter Try.func4, Try.ntmps4
  go_wp2_with fail
  rw [← HW.out]
  clear HW
  obtain ⟨p, hpe⟩ : ∃ p, p = v.heap.size + 1 := ⟨_, rfl⟩
  rw [← hpe] at C0
  rw [← hpe]
  have hp : p < w.heap.size := by omega
  have hvp : v.heap.size ≤ p := by omega
  have hvn : v.heap.size ≠ p := by omega
  clear hpe
  have hR0 := Grew.refl p w
  refine (groupOf_any p co cap bs 0 0 w hl (by omega) C0.out).mono ?_
  rintro e w1 ⟨⟨cnt, ao, c, q, rfl, hS, hD0⟩, k1, sd1, hk1, hC1, hg1⟩
  have XR1 := hid (XR0.out.grew hg1 (by omega))
  have C1 := hid hC1
  have hR1 : Grew p w w1 := hR0.trans hg1
  have hz1 : w.heap.size ≤ w1.heap.size := hg1.size
  clear XR0 C0 hg1 hC1
  have D1 := hid hD0
  clear hD0
  obtain ⟨hs1, hs2, hs3⟩ := hS
  have r0 := XR1.out.c 0 rfl
  have rf0 := XR1.out.f 0 rfl
  have r1 := XR1.out.c 1 rfl
  have rf1 := XR1.out.f 1 rfl
  have rz := XR1.out.size
  obtain ⟨w2, hV⟩ : ∃ V, V = w1.alloc (.cells #[.int .i64 cnt, .slice ao q.length c] 25) := ⟨_, rfl⟩
  have XR2 := hid (XR1.out.alloc (.cells #[.int .i64 cnt, .slice ao q.length c] 25))
  rw [← hV] at XR2
  have D2 := hid (D1.out.later (below1 w1 (.cells #[.int .i64 cnt, .slice ao q.length c] 25)))
  rw [← hV] at D2
  have C2 := hid (C1.out.later (below1 w1 (.cells #[.int .i64 cnt, .slice ao q.length c] 25)))
  rw [← hV] at C2
  have hR2 : Grew p w w2 := by rw [hV]; exact hR1.trans (Grew.alloc p _ _)
  have hz2 : w1.heap.size ≤ w2.heap.size := by rw [hV]; simp
  have H2 := hid hV
  clear hV XR1 D1 C1
  have XA2 : Hid (Bx w2 w1.heap.size [.int .i64 cnt, .slice ao q.length c]) := by rw [H2.out]; exact Bx.new [.int .i64 cnt, .slice ao q.length c] _ rfl
  have hy2 : w1.heap.size < w2.heap.size := XA2.out.size
  go_wp2_with fail
  clear r0 rf0 r1 rf1 rz
  rw [← H2.out]
  clear H2
  refine (one_any 2 p co cap bs k1 sd1 w2 hl (by omega) C2.out).mono ?_
  rintro e w3 ⟨⟨b, rfl⟩, hD⟩
  obtain ⟨k3, sd3, hk3, hC3, hg3, hsz3⟩ := hD.grew
  have XR3 := hid (XR2.out.grew hg3 (by omega))
  have XA3 := hid (XA2.out.grew hg3 (by omega))
  have D3 := hid (D2.out.grew hg3 (by omega))
  have C3 := hid hC3
  have hR3 : Grew p w w3 := hR2.trans hg3
  have hz3 : w2.heap.size ≤ w3.heap.size := hg3.size
  clear XR2 XA2 D2 C2 hD hg3 hC3 hsz3
  cases b
  · have r0 := XR3.out.c 0 rfl
    have rf0 := XR3.out.f 0 rfl
    have r1 := XR3.out.c 1 rfl
    have rf1 := XR3.out.f 1 rfl
    have rz := XR3.out.size
    have a0 := XA3.out.c 0 rfl
    have af0 := XA3.out.f 0 rfl
    have a1 := XA3.out.c 1 rfl
    have af1 := XA3.out.f 1 rfl
    have az := XA3.out.size
    go_wp2_with fail
    clear r0 rf0 r1 rf1 rz a0 af0 a1 af1 az
    refine (one_any 16 p co cap bs k3 sd3 w3 hl (by omega) C3.out).mono ?_
    rintro e w4 ⟨⟨b2, rfl⟩, hD⟩
    obtain ⟨k4, sd4, hk4, hC4, hg4, hsz4⟩ := hD.grew
    have XR4 := hid (XR3.out.grew hg4 (by omega))
    have XA4 := hid (XA3.out.grew hg4 (by omega))
    have D4 := hid (D3.out.grew hg4 (by omega))
    have C4 := hid hC4
    have hR4 : Grew p w w4 := hR3.trans hg4
    have hz4 : w3.heap.size ≤ w4.heap.size := hg4.size
    clear XR3 XA3 D3 C3 hD hg4 hC4 hsz4
    cases b2
    · have r0 := XR4.out.c 0 rfl
      have rf0 := XR4.out.f 0 rfl
      have r1 := XR4.out.c 1 rfl
      have rf1 := XR4.out.f 1 rfl
      have rz := XR4.out.size
      have a0 := XA4.out.c 0 rfl
      have af0 := XA4.out.f 0 rfl
      have a1 := XA4.out.c 1 rfl
      have af1 := XA4.out.f 1 rfl
      have az := XA4.out.size
      go_wp2
      refine bodyPost_ret (v := .tuple #[.agg #[.int .i64 cnt, .slice ao q.length c], .int .i64 (-cnt)]) (by simp [results, Try.results4, go_sem, r0, r1]) rfl ?_
      exact ⟨⟨cnt, ao, c, q, (-cnt), rfl, by omega, ((D4.out.setOff (a := ⟨v.heap.size, 0, none⟩) (by dsimp only; omega) _).setOff (a := ⟨v.heap.size, 1, none⟩) (by dsimp only; omega) _).wide (by omega) (by simp <;> omega)⟩, (((hBv.trans (hR4.below (by omega) (by omega))).setCell (p := ⟨v.heap.size, 0, none⟩) (by simp) _).setCell (p := ⟨v.heap.size, 1, none⟩) (by simp) _)⟩
    · have r0 := XR4.out.c 0 rfl
      have rf0 := XR4.out.f 0 rfl
      have r1 := XR4.out.c 1 rfl
      have rf1 := XR4.out.f 1 rfl
      have rz := XR4.out.size
      have a0 := XA4.out.c 0 rfl
      have af0 := XA4.out.f 0 rfl
      have a1 := XA4.out.c 1 rfl
      have af1 := XA4.out.f 1 rfl
      have az := XA4.out.size
      obtain ⟨w5, hV⟩ : ∃ V, V = w4.alloc (.cells #[.int .i64 1000000, .int .i64 (-1000001), .int .i64 1000001, .int .i64 999999] 3) := ⟨_, rfl⟩
      have XR5 := hid (XR4.out.alloc (.cells #[.int .i64 1000000, .int .i64 (-1000001), .int .i64 1000001, .int .i64 999999] 3))
      rw [← hV] at XR5
      have XA5 := hid (XA4.out.alloc (.cells #[.int .i64 1000000, .int .i64 (-1000001), .int .i64 1000001, .int .i64 999999] 3))
      rw [← hV] at XA5
      have D5 := hid (D4.out.later (below1 w4 (.cells #[.int .i64 1000000, .int .i64 (-1000001), .int .i64 1000001, .int .i64 999999] 3)))
      rw [← hV] at D5
      have C5 := hid (C4.out.later (below1 w4 (.cells #[.int .i64 1000000, .int .i64 (-1000001), .int .i64 1000001, .int .i64 999999] 3)))
      rw [← hV] at C5
      have hR5 : Grew p w w5 := by rw [hV]; exact hR4.trans (Grew.alloc p _ _)
      have hz5 : w4.heap.size ≤ w5.heap.size := by rw [hV]; simp
      have H5 := hid hV
      clear hV XR4 XA4 D4 C4
      have XU5 : Hid (Bx w5 w4.heap.size [.int .i64 1000000, .int .i64 (-1000001), .int .i64 1000001, .int .i64 999999]) := by rw [H5.out]; exact Bx.new [.int .i64 1000000, .int .i64 (-1000001), .int .i64 1000001, .int .i64 999999] _ rfl
      have hy5 : w4.heap.size < w5.heap.size := XU5.out.size
      go_wp2_with fail
      clear r0 rf0 r1 rf1 rz a0 af0 a1 af1 az
      rw [← H5.out]
      clear H5
      refine (among_in [1000000, -1000001, 1000001, 999999] w4.heap.size p co cap bs k4 sd4 w5 hl (by omega) C5.out (by simp) (by simp) XU5.out (by omega)).mono ?_
      rintro e w6 ⟨⟨z9, _, rfl⟩, hD⟩
      obtain ⟨k6, sd6, hk6, hC6, hg6, hsz6⟩ := hD.grew
      have XR6 := hid (XR5.out.grew hg6 (by omega))
      have XA6 := hid (XA5.out.grew hg6 (by omega))
      have XU6 := hid (XU5.out.grew hg6 (by omega))
      have D6 := hid (D5.out.grew hg6 (by omega))
      have C6 := hid hC6
      have hR6 : Grew p w w6 := hR5.trans hg6
      have hz6 : w5.heap.size ≤ w6.heap.size := hg6.size
      clear XR5 XA5 XU5 D5 C5 hD hg6 hC6 hsz6
      have r0 := XR6.out.c 0 rfl
      have rf0 := XR6.out.f 0 rfl
      have r1 := XR6.out.c 1 rfl
      have rf1 := XR6.out.f 1 rfl
      have rz := XR6.out.size
      have a0 := XA6.out.c 0 rfl
      have af0 := XA6.out.f 0 rfl
      have a1 := XA6.out.c 1 rfl
      have af1 := XA6.out.f 1 rfl
      have az := XA6.out.size
      have u0 := XU6.out.c 0 rfl
      have uf0 := XU6.out.f 0 rfl
      have u1 := XU6.out.c 1 rfl
      have uf1 := XU6.out.f 1 rfl
      have u2 := XU6.out.c 2 rfl
      have uf2 := XU6.out.f 2 rfl
      have u3 := XU6.out.c 3 rfl
      have uf3 := XU6.out.f 3 rfl
      have uz := XU6.out.size
      go_wp2
      refine bodyPost_ret (v := .tuple #[.agg #[.int .i64 cnt, .slice ao q.length c], .int .i64 z9]) (by simp [results, Try.results4, go_sem, r0, r1]) rfl ?_
      exact ⟨⟨cnt, ao, c, q, z9, rfl, by omega, ((D6.out.setOff (a := ⟨v.heap.size, 0, none⟩) (by dsimp only; omega) _).setOff (a := ⟨v.heap.size, 1, none⟩) (by dsimp only; omega) _).wide (by omega) (by simp <;> omega)⟩, (((hBv.trans (hR6.below (by omega) (by omega))).setCell (p := ⟨v.heap.size, 0, none⟩) (by simp) _).setCell (p := ⟨v.heap.size, 1, none⟩) (by simp) _)⟩
  · have r0 := XR3.out.c 0 rfl
    have rf0 := XR3.out.f 0 rfl
    have r1 := XR3.out.c 1 rfl
    have rf1 := XR3.out.f 1 rfl
    have rz := XR3.out.size
    have a0 := XA3.out.c 0 rfl
    have af0 := XA3.out.f 0 rfl
    have a1 := XA3.out.c 1 rfl
    have af1 := XA3.out.f 1 rfl
    have az := XA3.out.size
    go_wp2_with fail
    clear r0 rf0 r1 rf1 rz a0 af0 a1 af1 az
    refine (pick_any 7 p co cap bs k3 sd3 w3 hl (by omega) C3.out).mono ?_
    rintro e w4 ⟨⟨z, rfl, h0z, h1z⟩, hD⟩
    obtain ⟨k4, sd4, hk4, hC4, hg4, hsz4⟩ := hD.grew
    have XR4 := hid (XR3.out.grew hg4 (by omega))
    have XA4 := hid (XA3.out.grew hg4 (by omega))
    have D4 := hid (D3.out.grew hg4 (by omega))
    have C4 := hid hC4
    have hR4 : Grew p w w4 := hR3.trans hg4
    have hz4 : w3.heap.size ≤ w4.heap.size := hg4.size
    clear XR3 XA3 D3 C3 hD hg4 hC4 hsz4
    have r0 := XR4.out.c 0 rfl
    have rf0 := XR4.out.f 0 rfl
    have r1 := XR4.out.c 1 rfl
    have rf1 := XR4.out.f 1 rfl
    have rz := XR4.out.size
    have a0 := XA4.out.c 0 rfl
    have af0 := XA4.out.f 0 rfl
    have a1 := XA4.out.c 1 rfl
    have af1 := XA4.out.f 1 rfl
    have az := XA4.out.size
    go_wp2_with fail
    clear r0 rf0 r1 rf1 rz a0 af0 a1 af1 az
    refine (one_any 16 p co cap bs k4 sd4 w4 hl (by omega) C4.out).mono ?_
    rintro e w5 ⟨⟨b2, rfl⟩, hD⟩
    obtain ⟨k5, sd5, hk5, hC5, hg5, hsz5⟩ := hD.grew
    have XR5 := hid (XR4.out.grew hg5 (by omega))
    have XA5 := hid (XA4.out.grew hg5 (by omega))
    have D5 := hid (D4.out.grew hg5 (by omega))
    have C5 := hid hC5
    have hR5 : Grew p w w5 := hR4.trans hg5
    have hz5 : w4.heap.size ≤ w5.heap.size := hg5.size
    clear XR4 XA4 D4 C4 hD hg5 hC5 hsz5
    cases b2
    · have r0 := XR5.out.c 0 rfl
      have rf0 := XR5.out.f 0 rfl
      have r1 := XR5.out.c 1 rfl
      have rf1 := XR5.out.f 1 rfl
      have rz := XR5.out.size
      have a0 := XA5.out.c 0 rfl
      have af0 := XA5.out.f 0 rfl
      have a1 := XA5.out.c 1 rfl
      have af1 := XA5.out.f 1 rfl
      have az := XA5.out.size
      go_wp2
      refine bodyPost_ret (v := .tuple #[.agg #[.int .i64 cnt, .slice ao q.length c], .int .i64 (z - 4)]) (by simp [results, Try.results4, go_sem, r0, r1]) rfl ?_
      exact ⟨⟨cnt, ao, c, q, (z - 4), rfl, by omega, ((D5.out.setOff (a := ⟨v.heap.size, 0, none⟩) (by dsimp only; omega) _).setOff (a := ⟨v.heap.size, 1, none⟩) (by dsimp only; omega) _).wide (by omega) (by simp <;> omega)⟩, (((hBv.trans (hR5.below (by omega) (by omega))).setCell (p := ⟨v.heap.size, 0, none⟩) (by simp) _).setCell (p := ⟨v.heap.size, 1, none⟩) (by simp) _)⟩
    · have r0 := XR5.out.c 0 rfl
      have rf0 := XR5.out.f 0 rfl
      have r1 := XR5.out.c 1 rfl
      have rf1 := XR5.out.f 1 rfl
      have rz := XR5.out.size
      have a0 := XA5.out.c 0 rfl
      have af0 := XA5.out.f 0 rfl
      have a1 := XA5.out.c 1 rfl
      have af1 := XA5.out.f 1 rfl
      have az := XA5.out.size
      obtain ⟨w6, hV⟩ : ∃ V, V = w5.alloc (.cells #[.int .i64 1000000, .int .i64 (-1000001), .int .i64 1000001, .int .i64 999999] 3) := ⟨_, rfl⟩
      have XR6 := hid (XR5.out.alloc (.cells #[.int .i64 1000000, .int .i64 (-1000001), .int .i64 1000001, .int .i64 999999] 3))
      rw [← hV] at XR6
      have XA6 := hid (XA5.out.alloc (.cells #[.int .i64 1000000, .int .i64 (-1000001), .int .i64 1000001, .int .i64 999999] 3))
      rw [← hV] at XA6
      have D6 := hid (D5.out.later (below1 w5 (.cells #[.int .i64 1000000, .int .i64 (-1000001), .int .i64 1000001, .int .i64 999999] 3)))
      rw [← hV] at D6
      have C6 := hid (C5.out.later (below1 w5 (.cells #[.int .i64 1000000, .int .i64 (-1000001), .int .i64 1000001, .int .i64 999999] 3)))
      rw [← hV] at C6
      have hR6 : Grew p w w6 := by rw [hV]; exact hR5.trans (Grew.alloc p _ _)
      have hz6 : w5.heap.size ≤ w6.heap.size := by rw [hV]; simp
      have H6 := hid hV
      clear hV XR5 XA5 D5 C5
      have XU6 : Hid (Bx w6 w5.heap.size [.int .i64 1000000, .int .i64 (-1000001), .int .i64 1000001, .int .i64 999999]) := by rw [H6.out]; exact Bx.new [.int .i64 1000000, .int .i64 (-1000001), .int .i64 1000001, .int .i64 999999] _ rfl
      have hy6 : w5.heap.size < w6.heap.size := XU6.out.size
      go_wp2_with fail
      clear r0 rf0 r1 rf1 rz a0 af0 a1 af1 az
      rw [← H6.out]
      clear H6
      refine (among_in [1000000, -1000001, 1000001, 999999] w5.heap.size p co cap bs k5 sd5 w6 hl (by omega) C6.out (by simp) (by simp) XU6.out (by omega)).mono ?_
      rintro e w7 ⟨⟨z9, _, rfl⟩, hD⟩
      obtain ⟨k7, sd7, hk7, hC7, hg7, hsz7⟩ := hD.grew
      have XR7 := hid (XR6.out.grew hg7 (by omega))
      have XA7 := hid (XA6.out.grew hg7 (by omega))
      have XU7 := hid (XU6.out.grew hg7 (by omega))
      have D7 := hid (D6.out.grew hg7 (by omega))
      have C7 := hid hC7
      have hR7 : Grew p w w7 := hR6.trans hg7
      have hz7 : w6.heap.size ≤ w7.heap.size := hg7.size
      clear XR6 XA6 XU6 D6 C6 hD hg7 hC7 hsz7
      have r0 := XR7.out.c 0 rfl
      have rf0 := XR7.out.f 0 rfl
      have r1 := XR7.out.c 1 rfl
      have rf1 := XR7.out.f 1 rfl
      have rz := XR7.out.size
      have a0 := XA7.out.c 0 rfl
      have af0 := XA7.out.f 0 rfl
      have a1 := XA7.out.c 1 rfl
      have af1 := XA7.out.f 1 rfl
      have az := XA7.out.size
      have u0 := XU7.out.c 0 rfl
      have uf0 := XU7.out.f 0 rfl
      have u1 := XU7.out.c 1 rfl
      have uf1 := XU7.out.f 1 rfl
      have u2 := XU7.out.c 2 rfl
      have uf2 := XU7.out.f 2 rfl
      have u3 := XU7.out.c 3 rfl
      have uf3 := XU7.out.f 3 rfl
      have uz := XU7.out.size
      go_wp2
      refine bodyPost_ret (v := .tuple #[.agg #[.int .i64 cnt, .slice ao q.length c], .int .i64 z9]) (by simp [results, Try.results4, go_sem, r0, r1]) rfl ?_
      exact ⟨⟨cnt, ao, c, q, z9, rfl, by omega, ((D7.out.setOff (a := ⟨v.heap.size, 0, none⟩) (by dsimp only; omega) _).setOff (a := ⟨v.heap.size, 1, none⟩) (by dsimp only; omega) _).wide (by omega) (by simp <;> omega)⟩, (((hBv.trans (hR7.below (by omega) (by omega))).setCell (p := ⟨v.heap.size, 0, none⟩) (by simp) _).setCell (p := ⟨v.heap.size, 1, none⟩) (by simp) _)⟩
set_option maxRecDepth 10000 in
set_option maxHeartbeats 4000000 in
theorem drawGive_any (co : Option Addr) (cap : Nat) (bs : List Int) (v : World) (hl : bs.length ≤ 9223372036854775807) (hb : BytesIn v.heap.size v co bs) :
    Calls Try.prog 9 #[.slice co bs.length cap] v fun e w' => (∃ (s1 s2 : Int) (ao : Option Addr) (c : Nat) (q : List (Int × Int)) (iv : Int), e = .returned (.tuple #[.agg #[.int .i64 s1, .int .i64 s2, .slice ao q.length c], .int .i64 iv]) ∧ q.length ≤ 40 ∧ kN.RW v.heap.size w'.heap.size w' ao c q) ∧ Below v.heap.size v w' := by
  obtain ⟨w, hw⟩ : ∃ w, w = (v.alloc (.cells #[.int .i64 0, .int .i64 0, .slice none 0 0] 34)).alloc (.cells #[.slice co bs.length cap, .int .i64 0, .int .u64 0] 53) := ⟨_, rfl⟩
  have hBv : Below v.heap.size v w := by rw [hw]; exact Below.allocS (Below.allocS (Below.refl _ _) _) _
  have XR0 : Hid (Bx w v.heap.size [.int .i64 0, .int .i64 0, .slice none 0 0]) := by rw [hw]; exact Bx.alloc (Bx.new [.int .i64 0, .int .i64 0, .slice none 0 0] _ rfl) _
  have XC : Bx w (v.heap.size + 1) [.slice co bs.length cap, .int .i64 ((0 : Nat) : Int), .int .u64 0] := by rw [hw]; exact Bx.new [.slice co bs.length cap, .int .i64 0, .int .u64 0] _ (by simp)
  have hvw : v.heap.size + 1 + 1 ≤ w.heap.size := by rw [hw]; simp
  have HW := hid hw
  clear hw
  have C0 := hid (Cur.of XC (hb.later hBv (by omega)))
  clear XC
  go_enter Try.func9, Try.ntmps9
  go_wp2_with fail
  rw [← HW.out]
  clear HW
  obtain ⟨p, hpe⟩ : ∃ p, p = v.heap.size + 1 := ⟨_, rfl⟩
  rw [← hpe] at C0
  rw [← hpe]
  have hp : p < w.heap.size := by omega
  have hvp : v.heap.size ≤ p := by omega
  have hvn : v.heap.size ≠ p := by omega
  clear hpe
  have hR0 := Grew.refl p w
  refine (room_any p co cap bs 0 0 w hl (by omega) C0.out).mono ?_
  rintro e w1 ⟨⟨s1, s2, ao, c, q, rfl, hS, hD0⟩, k1, sd1, hk1, hC1, hg1⟩
  have XR1 := hid (XR0.out.grew hg1 (by omega))
  have C1 := hid hC1
  have hR1 : Grew p w w1 := hR0.trans hg1
  have hz1 : w.heap.size ≤ w1.heap.size := hg1.size
  clear XR0 C0 hg1 hC1
  have D1 := hid hD0
  clear hD0
  obtain ⟨hs1, hs2, hs3, hs4, hs5⟩ := hS
  have r0 := XR1.out.c 0 rfl
  have rf0 := XR1.out.f 0 rfl
  have r1 := XR1.out.c 1 rfl
  have rf1 := XR1.out.f 1 rfl
  have r2 := XR1.out.c 2 rfl
  have rf2 := XR1.out.f 2 rfl
  have rz := XR1.out.size
  obtain ⟨w2, hV⟩ : ∃ V, V = w1.alloc (.cells #[.int .i64 s1, .int .i64 s2, .slice ao q.length c] 34) := ⟨_, rfl⟩
  have XR2 := hid (XR1.out.alloc (.cells #[.int .i64 s1, .int .i64 s2, .slice ao q.length c] 34))
  rw [← hV] at XR2
  have D2 := hid (D1.out.later (below1 w1 (.cells #[.int .i64 s1, .int .i64 s2, .slice ao q.length c] 34)))
  rw [← hV] at D2
  have C2 := hid (C1.out.later (below1 w1 (.cells #[.int .i64 s1, .int .i64 s2, .slice ao q.length c] 34)))
  rw [← hV] at C2
  have hR2 : Grew p w w2 := by rw [hV]; exact hR1.trans (Grew.alloc p _ _)
  have hz2 : w1.heap.size ≤ w2.heap.size := by rw [hV]; simp
  have H2 := hid hV
  clear hV XR1 D1 C1
  have XA2 : Hid (Bx w2 w1.heap.size [.int .i64 s1, .int .i64 s2, .slice ao q.length c]) := by rw [H2.out]; exact Bx.new [.int .i64 s1, .int .i64 s2, .slice ao q.length c] _ rfl
  have hy2 : w1.heap.size < w2.heap.size := XA2.out.size
  go_wp2_with fail
  clear r0 rf0 r1 rf1 r2 rf2 rz
  rw [← H2.out]
  clear H2
  refine (pick_any _ p co cap bs k1 sd1 w2 hl (by omega) C2.out).mono ?_
  rintro e w3 ⟨⟨z, rfl, h0z, h1z⟩, hD⟩
  obtain ⟨k3, sd3, hk3, hC3, hg3, hsz3⟩ := hD.grew
  have XR3 := hid (XR2.out.grew hg3 (by omega))
  have XA3 := hid (XA2.out.grew hg3 (by omega))
  have D3 := hid (D2.out.grew hg3 (by omega))
  have C3 := hid hC3
  have hR3 : Grew p w w3 := hR2.trans hg3
  have hz3 : w2.heap.size ≤ w3.heap.size := hg3.size
  clear XR2 XA2 D2 C2 hD hg3 hC3 hsz3
  have r0 := XR3.out.c 0 rfl
  have rf0 := XR3.out.f 0 rfl
  have r1 := XR3.out.c 1 rfl
  have rf1 := XR3.out.f 1 rfl
  have r2 := XR3.out.c 2 rfl
  have rf2 := XR3.out.f 2 rfl
  have rz := XR3.out.size
  have a0 := XA3.out.c 0 rfl
  have af0 := XA3.out.f 0 rfl
  have a1 := XA3.out.c 1 rfl
  have af1 := XA3.out.f 1 rfl
  have a2 := XA3.out.c 2 rfl
  have af2 := XA3.out.f 2 rfl
  have az := XA3.out.size
  go_wp2_with fail
  clear r0 rf0 r1 rf1 r2 rf2 rz a0 af0 a1 af1 a2 af2 az
  refine (one_any 6 p co cap bs k3 sd3 w3 hl (by omega) C3.out).mono ?_
  rintro e w4 ⟨⟨b, rfl⟩, hD⟩
  obtain ⟨k4, sd4, hk4, hC4, hg4, hsz4⟩ := hD.grew
  have XR4 := hid (XR3.out.grew hg4 (by omega))
  have XA4 := hid (XA3.out.grew hg4 (by omega))
  have D4 := hid (D3.out.grew hg4 (by omega))
  have C4 := hid hC4
  have hR4 : Grew p w w4 := hR3.trans hg4
  have hz4 : w3.heap.size ≤ w4.heap.size := hg4.size
  clear XR3 XA3 D3 C3 hD hg4 hC4 hsz4
  cases b
  · have r0 := XR4.out.c 0 rfl
    have rf0 := XR4.out.f 0 rfl
    have r1 := XR4.out.c 1 rfl
    have rf1 := XR4.out.f 1 rfl
    have r2 := XR4.out.c 2 rfl
    have rf2 := XR4.out.f 2 rfl
    have rz := XR4.out.size
    have a0 := XA4.out.c 0 rfl
    have af0 := XA4.out.f 0 rfl
    have a1 := XA4.out.c 1 rfl
    have af1 := XA4.out.f 1 rfl
    have a2 := XA4.out.c 2 rfl
    have af2 := XA4.out.f 2 rfl
    have az := XA4.out.size
    go_wp2
    refine bodyPost_ret (v := .tuple #[.agg #[.int .i64 s1, .int .i64 s2, .slice ao q.length c], .int .i64 z]) (by simp [results, Try.results9, go_sem, r0, r1, r2]) rfl ?_
    exact ⟨⟨s1, s2, ao, c, q, z, rfl, by omega, (((D4.out.setOff (a := ⟨v.heap.size, 0, none⟩) (by dsimp only; omega) _).setOff (a := ⟨v.heap.size, 1, none⟩) (by dsimp only; omega) _).setOff (a := ⟨v.heap.size, 2, none⟩) (by dsimp only; omega) _).wide (by omega) (by simp <;> omega)⟩, ((((hBv.trans (hR4.below (by omega) (by omega))).setCell (p := ⟨v.heap.size, 0, none⟩) (by simp) _).setCell (p := ⟨v.heap.size, 1, none⟩) (by simp) _).setCell (p := ⟨v.heap.size, 2, none⟩) (by simp) _)⟩
  · have r0 := XR4.out.c 0 rfl
    have rf0 := XR4.out.f 0 rfl
    have r1 := XR4.out.c 1 rfl
    have rf1 := XR4.out.f 1 rfl
    have r2 := XR4.out.c 2 rfl
    have rf2 := XR4.out.f 2 rfl
    have rz := XR4.out.size
    have a0 := XA4.out.c 0 rfl
    have af0 := XA4.out.f 0 rfl
    have a1 := XA4.out.c 1 rfl
    have af1 := XA4.out.f 1 rfl
    have a2 := XA4.out.c 2 rfl
    have af2 := XA4.out.f 2 rfl
    have az := XA4.out.size
    obtain ⟨w5, hV⟩ : ∃ V, V = w4.alloc (.cells #[.int .i64 (-1), .int .i64 (s2 + 1), .int .i64 s1, .int .i64 (s1 + 1)] 3) := ⟨_, rfl⟩
    have XR5 := hid (XR4.out.alloc (.cells #[.int .i64 (-1), .int .i64 (s2 + 1), .int .i64 s1, .int .i64 (s1 + 1)] 3))
    rw [← hV] at XR5
    have XA5 := hid (XA4.out.alloc (.cells #[.int .i64 (-1), .int .i64 (s2 + 1), .int .i64 s1, .int .i64 (s1 + 1)] 3))
    rw [← hV] at XA5
    have D5 := hid (D4.out.later (below1 w4 (.cells #[.int .i64 (-1), .int .i64 (s2 + 1), .int .i64 s1, .int .i64 (s1 + 1)] 3)))
    rw [← hV] at D5
    have C5 := hid (C4.out.later (below1 w4 (.cells #[.int .i64 (-1), .int .i64 (s2 + 1), .int .i64 s1, .int .i64 (s1 + 1)] 3)))
    rw [← hV] at C5
    have hR5 : Grew p w w5 := by rw [hV]; exact hR4.trans (Grew.alloc p _ _)
    have hz5 : w4.heap.size ≤ w5.heap.size := by rw [hV]; simp
    have H5 := hid hV
    clear hV XR4 XA4 D4 C4
    have XU5 : Hid (Bx w5 w4.heap.size [.int .i64 (-1), .int .i64 (s2 + 1), .int .i64 s1, .int .i64 (s1 + 1)]) := by rw [H5.out]; exact Bx.new [.int .i64 (-1), .int .i64 (s2 + 1), .int .i64 s1, .int .i64 (s1 + 1)] _ rfl
    have hy5 : w4.heap.size < w5.heap.size := XU5.out.size
    go_wp2_with fail
    clear r0 rf0 r1 rf1 r2 rf2 rz a0 af0 a1 af1 a2 af2 az
    rw [← H5.out]
    clear H5
    refine (among_in [-1, s2 + 1, s1, s1 + 1] w4.heap.size p co cap bs k4 sd4 w5 hl (by omega) C5.out (by simp) (by simp) XU5.out (by omega)).mono ?_
    rintro e w6 ⟨⟨z9, _, rfl⟩, hD⟩
    obtain ⟨k6, sd6, hk6, hC6, hg6, hsz6⟩ := hD.grew
    have XR6 := hid (XR5.out.grew hg6 (by omega))
    have XA6 := hid (XA5.out.grew hg6 (by omega))
    have XU6 := hid (XU5.out.grew hg6 (by omega))
    have D6 := hid (D5.out.grew hg6 (by omega))
    have C6 := hid hC6
    have hR6 : Grew p w w6 := hR5.trans hg6
    have hz6 : w5.heap.size ≤ w6.heap.size := hg6.size
    clear XR5 XA5 XU5 D5 C5 hD hg6 hC6 hsz6
    have r0 := XR6.out.c 0 rfl
    have rf0 := XR6.out.f 0 rfl
    have r1 := XR6.out.c 1 rfl
    have rf1 := XR6.out.f 1 rfl
    have r2 := XR6.out.c 2 rfl
    have rf2 := XR6.out.f 2 rfl
    have rz := XR6.out.size
    have a0 := XA6.out.c 0 rfl
    have af0 := XA6.out.f 0 rfl
    have a1 := XA6.out.c 1 rfl
    have af1 := XA6.out.f 1 rfl
    have a2 := XA6.out.c 2 rfl
    have af2 := XA6.out.f 2 rfl
    have az := XA6.out.size
    have u0 := XU6.out.c 0 rfl
    have uf0 := XU6.out.f 0 rfl
    have u1 := XU6.out.c 1 rfl
    have uf1 := XU6.out.f 1 rfl
    have u2 := XU6.out.c 2 rfl
    have uf2 := XU6.out.f 2 rfl
    have u3 := XU6.out.c 3 rfl
    have uf3 := XU6.out.f 3 rfl
    have uz := XU6.out.size
    go_wp2
    refine bodyPost_ret (v := .tuple #[.agg #[.int .i64 s1, .int .i64 s2, .slice ao q.length c], .int .i64 z9]) (by simp [results, Try.results9, go_sem, r0, r1, r2]) rfl ?_
    exact ⟨⟨s1, s2, ao, c, q, z9, rfl, by omega, (((D6.out.setOff (a := ⟨v.heap.size, 0, none⟩) (by dsimp only; omega) _).setOff (a := ⟨v.heap.size, 1, none⟩) (by dsimp only; omega) _).setOff (a := ⟨v.heap.size, 2, none⟩) (by dsimp only; omega) _).wide (by omega) (by simp <;> omega)⟩, ((((hBv.trans (hR6.below (by omega) (by omega))).setCell (p := ⟨v.heap.size, 0, none⟩) (by simp) _).setCell (p := ⟨v.heap.size, 1, none⟩) (by simp) _).setCell (p := ⟨v.heap.size, 2, none⟩) (by simp) _)⟩
set_option maxRecDepth 10000 in
set_option maxHeartbeats 4000000 in
theorem drawCancel_any (co : Option Addr) (cap : Nat) (bs : List Int) (v : World) (hl : bs.length ≤ 9223372036854775807) (hb : BytesIn v.heap.size v co bs) :
    Calls Try.prog 13 #[.slice co bs.length cap] v fun e w' => (∃ (ao : Option Addr) (c : Nat) (q : List Sc) (iv : Int), e = .returned (.tuple #[.slice ao q.length c, .int .i64 iv]) ∧ q.length ≤ 30 ∧ kS.RW v.heap.size w'.heap.size w' ao c q) ∧ Below v.heap.size v w' := by
  obtain ⟨w, hw⟩ : ∃ w, w = v.alloc (.cells #[.slice co bs.length cap, .int .i64 0, .int .u64 0] 53) := ⟨_, rfl⟩
  have hBv : Below v.heap.size v w := by rw [hw]; exact Below.allocS (Below.refl _ _) _
  have XC : Bx w (v.heap.size) [.slice co bs.length cap, .int .i64 ((0 : Nat) : Int), .int .u64 0] := by rw [hw]; exact Bx.new [.slice co bs.length cap, .int .i64 0, .int .u64 0] _ (by simp)
  have hvw : v.heap.size + 1 ≤ w.heap.size := by rw [hw]; simp
  have HW := hid hw
  clear hw
  have C0 := hid (Cur.of XC (hb.later hBv (by omega)))
  clear XC
  go_enter Try.func13, Try.ntmps13
  go_wp2_with fail
  rw [← HW.out]
  clear HW
  obtain ⟨p, hpe⟩ : ∃ p, p = v.heap.size := ⟨_, rfl⟩
  rw [← hpe] at C0
  rw [← hpe]
  have hp : p < w.heap.size := by omega
  have hvp : v.heap.size ≤ p := by omega
  have hvn : True := trivial
  clear hpe
  have hR0 := Grew.refl p w
  refine (scopes_any p co cap bs 0 0 w hl (by omega) C0.out).mono ?_
  rintro e w1 ⟨⟨ao, c, q, rfl, hS, hD0⟩, k1, sd1, hk1, hC1, hg1⟩
  have C1 := hid hC1
  have hR1 : Grew p w w1 := hR0.trans hg1
  have hz1 : w.heap.size ≤ w1.heap.size := hg1.size
  clear C0 hg1 hC1
  have D1 := hid hD0
  clear hD0
  go_wp2_with fail
  refine (idIn_any q.length p co cap bs k1 sd1 w1 hl (by omega) (by omega) C1.out).mono ?_
  rintro e w2 ⟨⟨z, rfl⟩, k2, sd2, hk2, hC2, hg2⟩
  have D2 := hid (D1.out.grew hg2 (by omega))
  have C2 := hid hC2
  have hR2 : Grew p w w2 := hR1.trans hg2
  have hz2 : w1.heap.size ≤ w2.heap.size := hg2.size
  clear D1 C1 hg2 hC2
  go_wp2
  refine bodyPost_ret (v := .tuple #[.slice ao q.length c, .int .i64 z]) (by simp [results, Try.results13, go_sem]) rfl ?_
  exact ⟨⟨ao, c, q, z, rfl, hS, D2.out.wide (by omega) (by have := hz2; omega)⟩, hBv.trans (hR2.below (by omega) (by omega))⟩
end
section
open Go.RowKit

set_option maxHeartbeats 2000000 in
theorem has_is (n₀ : Nat) (ao : Option Addr) (cap : Nat) (zs : List Int) (n : Int) (w : World) (b : Bool) (hl : zs.length ≤ 1048576) (hz : kI.In n₀ w ao zs) (hb : hasB zs n = b) :
    Calls Try.prog 17 #[.slice ao zs.length cap, .int .i64 n] w fun e w' => e = .returned (.bool b) ∧ w' = w := by
  have HB : Hid (hasB zs n = b) := hb
  clear hb
  go_enter Try.func17, Try.ntmps17
  go_wp2
  go_loop [9] (fun i => ∃ k : Nat, k ≤ zs.length ∧ i = .int .i64 k ∧ Hid (∀ j, j < k → el zs j ≠ n)) (fun i => zs.length - (intOf i).toNat)
  case atStart => exact ⟨0, Nat.zero_le _, rfl, fun j hj => by omega⟩
  case round =>
    obtain ⟨k, hk, rfl, hno⟩ := hrel
    by_cases hlt : k < zs.length
    · obtain ⟨b, off, rfl, hb, hc⟩ := ints_at hz hlt
      have hck := hc k hlt
      clear hc hz
      obtain ⟨x, hx⟩ : ∃ x, x = el zs k := ⟨_, rfl⟩
      rw [← hx] at hck
      have HX : Hid (x = el zs k) := hx
      clear hx
      by_cases he : x = n
      · have he' : (x == n) = true := by simpa using he
        have HY : Hid (hasB zs n = true) := hasB_yes hlt (by rw [← HX.out]; exact he)
        clear he
        go_wp2
        go_ret
        exact ⟨ret_bool (by rw [← HB.out, HY.out]), rfl⟩
      · have he' : (x == n) = false := by simpa using he
        go_wp2
        go_round
        case rel => exact ⟨k + 1, by omega, by go_num, fun j hj => by
          rcases Nat.lt_succ_iff_lt_or_eq.1 hj with h | rfl
          · exact hno.out j h
          · rw [← HX.out]; exact he⟩
        case measure => simp [intOf]; omega
    · obtain rfl : k = zs.length := by omega
      have HN : Hid (hasB zs n = false) := hasB_no hno.out
      go_wp2
      go_ret
      exact ⟨ret_bool (by rw [← HB.out, HN.out]), rfl⟩
set_option maxHeartbeats 2000000 in
theorem sameInts_same (ao bo : Option Addr) (cap cap' : Nat) (zs : List Int) (w : World) (hl : zs.length ≤ 1048576) (hz : kI.In w.heap.size w ao zs) (hz' : kI.In w.heap.size w bo zs) :
    Calls Try.prog 7 #[.slice ao zs.length cap, .slice bo zs.length cap'] w fun e w' => e = .returned (.bool true) ∧ Below w.heap.size w w' := by
  have hne : ((zs.length : Int) != (zs.length : Int)) = false := by simp
  go_enter Try.func7, Try.ntmps7
  go_wp2
  go_loopw [13] (fun i wr => ∃ k : Nat, k ≤ zs.length ∧ i = .int .i64 k ∧ Below w.heap.size w wr) (fun i _ => zs.length - (intOf i).toNat)
  case atStart => exact ⟨0, Nat.zero_le _, rfl, Below.refl _ _⟩
  case round =>
    obtain ⟨k, hk, rfl, hnx⟩ := hrel
    by_cases hlt : k < zs.length
    · obtain ⟨b, off, rfl, hb, hc⟩ := ints_at hz hlt
      obtain ⟨b', off', rfl, hb', hc'⟩ := ints_at hz' hlt
      have hck := (hnx.cell (p := ⟨b, off + k, none⟩) hb).trans (hc k hlt)
      have hck' := (hnx.cell (p := ⟨b', off' + k, none⟩) hb').trans (hc' k hlt)
      clear hc hz hc' hz'
      obtain ⟨x, hx⟩ : ∃ x, x = el zs k := ⟨_, rfl⟩
      rw [← hx] at hck hck'
      clear hx
      have hxx : (x != x) = false := by simp
      go_wp2
      go_quiet (fail)
      go_wp2
      go_roundw
      case rel => exact ⟨k + 1, by omega, by go_num, below_draws hnx _⟩
      case measure => simp [intOf]; omega
    · obtain rfl : k = zs.length := by omega
      go_wp2
      go_ret
      exact ⟨rfl, hnx⟩
theorem sameInts_eq (ao bo : Option Addr) (cap cap' : Nat) (zs ys : List Int) (w : World) (hl : zs.length ≤ 1048576) (e : zs = ys) (hz : kI.In w.heap.size w ao zs) (hz' : kI.In w.heap.size w bo ys) :
    Calls Try.prog 7 #[.slice ao zs.length cap, .slice bo ys.length cap'] w fun e w' => e = .returned (.bool true) ∧ Below w.heap.size w w' := by
  subst e; exact sameInts_same ao bo cap cap' zs w hl hz hz'
theorem implAdd_as (cnt : Int) (ao : Option Addr) (c : Nat) (q : List Int) (iv : Int) (Gc : Int) (Gq Gw : List Int) (Gr : Int) (w : World) (hl : q.length ≤ 1048576) (hz : kI.In w.heap.size w ao q) (h : addR cnt q iv = (Gc, Gq, Gw, Gr)) :
    Calls Try.prog 5 #[.agg #[.int .i64 cnt, .slice ao q.length c], .int .i64 iv] w fun e w' => (∃ o c o' c', e = .returned (.tuple #[.agg #[.int .i64 Gc, .slice o Gq.length c], .slice o' Gw.length c', .int .i64 Gr]) ∧ kI.Fresh w.heap.size w'.heap.size w' o c Gq ∧ kI.Fresh w.heap.size w'.heap.size w' o' c' Gw) ∧ Below w.heap.size w w' :=
  (implAdd_any cnt ao c q iv w hl hz).mono fun e w' hh => by
    rw [h] at hh
    obtain ⟨⟨o, c, o', c', e, f1, f2, _⟩, hb⟩ := hh
    exact ⟨⟨o, c, o', c', e, f1, f2⟩, hb⟩
theorem specAdd_as (cnt : Int) (ao : Option Addr) (c : Nat) (q : List Int) (iv : Int) (Gc : Int) (Gq Gw : List Int) (Gr : Int) (w : World) (hl : q.length ≤ 1048576) (hc : q.length ≤ c) (hno : ao = none → c = 0) (hz : kI.In w.heap.size w ao q) (h : addR cnt q iv = (Gc, Gq, Gw, Gr)) :
    Calls Try.prog 6 #[.agg #[.int .i64 cnt, .slice ao q.length c], .int .i64 iv] w fun e w' => (∃ o c o' c', e = .returned (.tuple #[.agg #[.int .i64 Gc, .slice o Gq.length c], .slice o' Gw.length c', .int .i64 Gr]) ∧ kI.Fresh w.heap.size w'.heap.size w' o c Gq ∧ kI.Fresh w.heap.size w'.heap.size w' o' c' Gw) ∧ Below w.heap.size w w' :=
  (specAdd_any cnt ao c q iv w hl hc hno hz).mono fun e w' hh => by
    rw [h] at hh
    obtain ⟨⟨o, c, o', c', e, f1, f2, _⟩, hb⟩ := hh
    exact ⟨⟨o, c, o', c', e, f1, f2⟩, hb⟩
theorem implGive_as (s1 s2 : Int) (ao : Option Addr) (c : Nat) (q : List (Int × Int)) (iv : Int) (Rs Ru : Int) (Rq : List (Int × Int)) (Rw : List Int) (Rc : Int) (w : World) (hl : q.length ≤ 1048576) (hz : kN.In w.heap.size w ao q) (h : giveR s1 s2 q iv = (Rs, Ru, Rq, Rw, Rc)) :
    Calls Try.prog 10 #[.agg #[.int .i64 s1, .int .i64 s2, .slice ao q.length c], .int .i64 iv] w fun e w' => (∃ o c o' c', e = .returned (.tuple #[.agg #[.int .i64 Rs, .int .i64 Ru, .slice o Rq.length c], .slice o' Rw.length c', .int .i64 Rc]) ∧ kN.Fresh w.heap.size w'.heap.size w' o c Rq ∧ kI.Fresh w.heap.size w'.heap.size w' o' c' Rw) ∧ Below w.heap.size w w' :=
  (implGive_any s1 s2 ao c q iv w hl hz).mono fun e w' hh => by
    rw [h] at hh
    obtain ⟨⟨o, c, o', c', e, f1, f2⟩, hb⟩ := hh
    exact ⟨⟨o, c, o', c', e, f1, f2⟩, hb⟩
theorem specGive_as (s1 s2 : Int) (ao : Option Addr) (c : Nat) (q : List (Int × Int)) (iv : Int) (Rs Ru : Int) (Rq : List (Int × Int)) (Rw : List Int) (Rc : Int) (w : World) (hl : q.length ≤ 1048576) (hno : ao = none → c = 0) (hz : kN.In w.heap.size w ao q) (h : giveR s1 s2 q iv = (Rs, Ru, Rq, Rw, Rc)) :
    Calls Try.prog 11 #[.agg #[.int .i64 s1, .int .i64 s2, .slice ao q.length c], .int .i64 iv] w fun e w' => (∃ o c o' c', e = .returned (.tuple #[.agg #[.int .i64 Rs, .int .i64 Ru, .slice o Rq.length c], .slice o' Rw.length c', .int .i64 Rc]) ∧ kN.Fresh w.heap.size w'.heap.size w' o c Rq ∧ kI.Fresh w.heap.size w'.heap.size w' o' c' Rw) ∧ Below w.heap.size w w' :=
  (specGive_any s1 s2 ao c q iv w hl hno hz).mono fun e w' hh => by
    rw [h] at hh
    obtain ⟨⟨o, c, o', c', e, f1, f2⟩, hb⟩ := hh
    exact ⟨⟨o, c, o', c', e, f1, f2⟩, hb⟩
theorem implCancel_as (ao : Option Addr) (c : Nat) (q : List Sc) (iv : Int) (Z : List Sc) (E : List Int) (Cc : Int) (w : World) (hl : q.length ≤ 1048576) (hz : kS.In w.heap.size w ao q) (h : cancelR q iv = (Z, E, Cc)) :
    Calls Try.prog 14 #[.slice ao q.length c, .int .i64 iv] w fun e w' => (∃ o c o' c', e = .returned (.tuple #[.slice o Z.length c, .slice o' E.length c', .int .i64 Cc]) ∧ kS.Fresh w.heap.size w'.heap.size w' o c Z ∧ kI.Fresh w.heap.size w'.heap.size w' o' c' E) ∧ Below w.heap.size w w' :=
  (implCancel_any ao c q iv w hl hz).mono fun e w' hh => by
    rw [h] at hh
    obtain ⟨⟨o, c, o', c', e, f1, f2⟩, hb⟩ := hh
    exact ⟨⟨o, c, o', c', e, f1, f2⟩, hb⟩
theorem specCancel_as (ao : Option Addr) (c : Nat) (q : List Sc) (iv : Int) (Z : List Sc) (E : List Int) (Cc : Int) (w : World) (hl : q.length ≤ 1048576) (hno : ao = none → c = 0) (hz : kS.In w.heap.size w ao q) (h : cancelR q iv = (Z, E, Cc)) :
    Calls Try.prog 15 #[.slice ao q.length c, .int .i64 iv] w fun e w' => (∃ o c o' c', e = .returned (.tuple #[.slice o Z.length c, .slice o' E.length c', .int .i64 Cc]) ∧ kS.Fresh w.heap.size w'.heap.size w' o c Z ∧ kI.Fresh w.heap.size w'.heap.size w' o' c' E) ∧ Below w.heap.size w w' :=
  (specCancel_any ao c q iv w hl hno hz).mono fun e w' hh => by
    rw [h] at hh
    obtain ⟨⟨o, c, o', c', e, f1, f2⟩, hb⟩ := hh
    exact ⟨⟨o, c, o', c', e, f1, f2⟩, hb⟩
theorem giveR_short {s1 s2 : Int} {l : List (Int × Int)} {k : Int} (hl : l.length ≤ 40) : (giveR s1 s2 l k).2.2.1.length ≤ 40 ∧ (giveR s1 s2 l k).2.2.2.1.length ≤ 40 := by
  unfold giveR
  repeat' split
  · simp; omega
  · have := letR_len s1 l (s2 - k); dsimp only; omega
  · simp
theorem addR_short {cnt : Int} {q : List Int} {k : Int} (hl : q.length ≤ 40) : (addR cnt q k).2.1.length ≤ 40 ∧ (addR cnt q k).2.2.1.length ≤ 40 := by
  unfold addR; repeat' split
  all_goals simp [hl]
theorem cancelR_short {l : List Sc} {k : Int} (hl : l.length ≤ 40) : (cancelR l k).1.length ≤ 40 ∧ (cancelR l k).2.1.length ≤ 40 := by
  unfold cancelR; repeat' split
  · have := endTo_num (isB k) 1 l l.length
    rw [endTo_len]; dsimp only; omega
  · simp; omega
  · simp
end
end Go.Proofs.Ytdgnolpimmdgjaa
