/- DrawSendOn from a text of bytes. No conditions but those written. The law's callees with their answers as variables. No conditions but those written. The law of what is sent: it returns true. No conditions but those written. -/
import Derived.Test.YtdfmmidokfcjfaaXl
import Derived.Test.YtdfmmidokfcjfaaXw
import Derived.Test.YtdfmmidokfcjfaaXd
import Derived.Deep.RegionLaw
import Derived.Test.YtdfmmidokfcjfaaPn
import Derived.Test.YtdfmmidokfcjfaaOIa
import Derived.Test.YtdfmmidokfcjfaaOQc
namespace Go.Proofs.Ytdfmmidokfcjfaa
section
open Go.RowKit

theorem BytesIn.later {n m : Nat} {W W' : World} {co : Option Addr} {bs : List Int} (h : BytesIn n W co bs) (hb : Below n W W') (hm : n ≤ m) : BytesIn m W' co bs := by
  rcases h with h | ⟨b, off, e, hbn, hc⟩
  · exact .inl h
  · exact .inr ⟨b, off, e, by omega, fun j hj => ⟨(World.cell?_of_block (a := ⟨b, off + j, none⟩) (hb.block b hbn)).trans (hc j hj).1, (hc j hj).2⟩⟩
theorem Cur.of {W : World} {p : Nat} {co : Option Addr} {cap : Nat} {bs : List Int} {k : Nat} {sd : Int} (h : Bx W p [.slice co bs.length cap, .int .i64 (k : Int), .int .u64 sd]) (hb : BytesIn p W co bs) : Cur W p co cap bs k sd := ⟨h.1, ⟨h.c 0 rfl, h.c 1 rfl, h.c 2 rfl⟩, ⟨h.f 0 rfl, h.f 1 rfl, h.f 2 rfl⟩, hb⟩
theorem XV.drew {lo hi : Nat} {W : World} {bo : Option Addr} {bc : Nat} {b : List Int} {so : Option Addr} {sc : Nat} {s : List Old.T3} {ro : Option Addr} {rc : Nat} {r : List Old.T3} (h : XV lo hi W bo bc b so sc s ro rc r) : XV lo hi W.drew bo bc b so sc s ro rc r := h.keep fun _ _ _ _ => rfl
set_option maxRecDepth 10000 in
set_option maxHeartbeats 16000000 in
theorem drawSend_any (co : Option Addr) (cap : Nat) (bs : List Int) (v : World) (hl : bs.length ≤ 9223372036854775807) (hb : BytesIn v.heap.size v co bs) :
    Calls Try.prog 4 #[.slice co bs.length cap] v fun e w' => (∃ (kap : Int) (cl : Bool) (bo : Option Addr) (bc : Nat) (b : List Int) (so : Option Addr) (sc : Nat) (s : List Old.T3) (ro : Option Addr) (rc : Nat) (r : List Old.T3) (t1 t2 tv : Int), e = .returned (.tuple #[.agg #[.int .i64 kap, .bool cl, .slice bo b.length bc, .slice so s.length sc, .slice ro r.length rc], .agg #[.int .i64 t1, .int .i64 t2, .int .i64 tv]]) ∧ (b.length ≤ 42 ∧ s.length ≤ 42 ∧ r.length ≤ 42) ∧ XV v.heap.size w'.heap.size w' bo bc b so sc s ro rc r) ∧ Below v.heap.size v w' := by
  obtain ⟨w, hw⟩ : ∃ w, w = ((v.alloc (.cells #[.int .i64 0, .bool false, .slice none 0 0, .slice none 0 0, .slice none 0 0] 26)).alloc (.cells #[.int .i64 0, .int .i64 0, .int .i64 0] 28)).alloc (.cells #[.slice co bs.length cap, .int .i64 0, .int .u64 0] 40) := ⟨_, rfl⟩
  have hBv : Below v.heap.size v w := by rw [hw]; exact Below.allocS (Below.allocS (Below.allocS (Below.refl _ _) _) _) _
  have XR0 : Hid (Bx w v.heap.size [.int .i64 0, .bool false, .slice none 0 0, .slice none 0 0, .slice none 0 0]) := by rw [hw]; exact Bx.alloc (Bx.alloc (Bx.new [.int .i64 0, .bool false, .slice none 0 0, .slice none 0 0, .slice none 0 0] _ rfl) _) _
  have XQ0 : Hid (Bx w (v.heap.size + 1) [.int .i64 0, .int .i64 0, .int .i64 0]) := by rw [hw]; exact Bx.alloc (Bx.new [.int .i64 0, .int .i64 0, .int .i64 0] _ (by simp)) _
  have XC : Bx w (v.heap.size + 1 + 1) [.slice co bs.length cap, .int .i64 ((0 : Nat) : Int), .int .u64 0] := by rw [hw]; exact Bx.new [.slice co bs.length cap, .int .i64 0, .int .u64 0] _ (by simp)
  have hvw : v.heap.size + 1 + 1 + 1 ≤ w.heap.size := by rw [hw]; simp
  have HW := hid hw
  clear hw
  have C0 := hid (Cur.of XC (hb.later hBv (by omega)))
  clear XC
  go_enter Try.func4, Try.ntmps4
  go_wp2_with fail
  rw [← HW.out]
  clear HW
  obtain ⟨p, hpe⟩ : ∃ p, p = v.heap.size + 1 + 1 := ⟨_, rfl⟩
  rw [← hpe] at C0
  rw [← hpe]
  have hp : p < w.heap.size := by omega
  have hvp : v.heap.size + 1 < p := by omega
  clear hpe
  have hR0 := Grew.refl p w
  refine (chanOf_any p co cap bs 0 0 w hl (by omega) C0.out).mono ?_
  rintro e w1 ⟨⟨kap, cl, bo, bc, b, so, sc, s, ro, rc, r, rfl, hS, hD0⟩, k1, sd1, hk1, hC1, hg1⟩
  have XR1 := hid (XR0.out.grew hg1 (by omega))
  have XQ1 := hid (XQ0.out.grew hg1 (by omega))
  have C1 := hid hC1
  have hR1 : Grew p w w1 := hR0.trans hg1
  have hz1 : w.heap.size ≤ w1.heap.size := hg1.size
  clear XR0 XQ0 C0 hg1 hC1
  have D1 := hid hD0
  clear hD0
  obtain ⟨hs1, hs2, hs3⟩ := hS
  have r0 := XR1.out.c 0 rfl
  have rf0 := XR1.out.f 0 rfl
  have r1 := XR1.out.c 1 rfl
  have rf1 := XR1.out.f 1 rfl
  have r2 := XR1.out.c 2 rfl
  have rf2 := XR1.out.f 2 rfl
  have r3 := XR1.out.c 3 rfl
  have rf3 := XR1.out.f 3 rfl
  have r4 := XR1.out.c 4 rfl
  have rf4 := XR1.out.f 4 rfl
  have rz := XR1.out.size
  have q0 := XQ1.out.c 0 rfl
  have qf0 := XQ1.out.f 0 rfl
  have q1 := XQ1.out.c 1 rfl
  have qf1 := XQ1.out.f 1 rfl
  have q2 := XQ1.out.c 2 rfl
  have qf2 := XQ1.out.f 2 rfl
  have qz := XQ1.out.size
  obtain ⟨w2, hV⟩ : ∃ V, V = w1.alloc (.cells #[.int .i64 kap, .bool cl, .slice bo b.length bc, .slice so s.length sc, .slice ro r.length rc] 26) := ⟨_, rfl⟩
  have XR2 := hid (XR1.out.alloc (.cells #[.int .i64 kap, .bool cl, .slice bo b.length bc, .slice so s.length sc, .slice ro r.length rc] 26))
  rw [← hV] at XR2
  have XQ2 := hid (XQ1.out.alloc (.cells #[.int .i64 kap, .bool cl, .slice bo b.length bc, .slice so s.length sc, .slice ro r.length rc] 26))
  rw [← hV] at XQ2
  have D2 := hid (D1.out.later (below1 w1 (.cells #[.int .i64 kap, .bool cl, .slice bo b.length bc, .slice so s.length sc, .slice ro r.length rc] 26)))
  rw [← hV] at D2
  have C2 := hid (C1.out.later (below1 w1 (.cells #[.int .i64 kap, .bool cl, .slice bo b.length bc, .slice so s.length sc, .slice ro r.length rc] 26)))
  rw [← hV] at C2
  have hR2 : Grew p w w2 := by rw [hV]; exact hR1.trans (Grew.alloc p _ _)
  have hz2 : w1.heap.size ≤ w2.heap.size := by rw [hV]; simp
  have H2 := hid hV
  clear hV XR1 XQ1 D1 C1
  have XA2 : Hid (Bx w2 w1.heap.size [.int .i64 kap, .bool cl, .slice bo b.length bc, .slice so s.length sc, .slice ro r.length rc]) := by rw [H2.out]; exact Bx.new [.int .i64 kap, .bool cl, .slice bo b.length bc, .slice so s.length sc, .slice ro r.length rc] _ rfl
  have hy2 : w1.heap.size < w2.heap.size := XA2.out.size
  go_wp2_with fail
  clear r0 rf0 r1 rf1 r2 rf2 r3 rf3 r4 rf4 rz q0 qf0 q1 qf1 q2 qf2 qz
  rw [← H2.out]
  clear H2
  refine (waiter_any p co cap bs k1 sd1 w2 hl (by omega) C2.out).mono ?_
  rintro e w3 ⟨⟨t1, t2, rfl⟩, k3, sd3, hk3, hC3, hg3⟩
  have XR3 := hid (XR2.out.grew hg3 (by omega))
  have XQ3 := hid (XQ2.out.grew hg3 (by omega))
  have XA3 := hid (XA2.out.grew hg3 (by omega))
  have D3 := hid (D2.out.grew hg3 (by omega))
  have C3 := hid hC3
  have hR3 : Grew p w w3 := hR2.trans hg3
  have hz3 : w2.heap.size ≤ w3.heap.size := hg3.size
  clear XR2 XQ2 XA2 D2 C2 hg3 hC3
  have r0 := XR3.out.c 0 rfl
  have rf0 := XR3.out.f 0 rfl
  have r1 := XR3.out.c 1 rfl
  have rf1 := XR3.out.f 1 rfl
  have r2 := XR3.out.c 2 rfl
  have rf2 := XR3.out.f 2 rfl
  have r3 := XR3.out.c 3 rfl
  have rf3 := XR3.out.f 3 rfl
  have r4 := XR3.out.c 4 rfl
  have rf4 := XR3.out.f 4 rfl
  have rz := XR3.out.size
  have q0 := XQ3.out.c 0 rfl
  have qf0 := XQ3.out.f 0 rfl
  have q1 := XQ3.out.c 1 rfl
  have qf1 := XQ3.out.f 1 rfl
  have q2 := XQ3.out.c 2 rfl
  have qf2 := XQ3.out.f 2 rfl
  have qz := XQ3.out.size
  have a0 := XA3.out.c 0 rfl
  have af0 := XA3.out.f 0 rfl
  have a1 := XA3.out.c 1 rfl
  have af1 := XA3.out.f 1 rfl
  have a2 := XA3.out.c 2 rfl
  have af2 := XA3.out.f 2 rfl
  have a3 := XA3.out.c 3 rfl
  have af3 := XA3.out.f 3 rfl
  have a4 := XA3.out.c 4 rfl
  have af4 := XA3.out.f 4 rfl
  have az := XA3.out.size
  obtain ⟨w4, hV⟩ : ∃ V, V = w3.alloc (.cells #[.int .i64 t1, .int .i64 t2, .int .i64 0] 28) := ⟨_, rfl⟩
  have XR4 := hid (XR3.out.alloc (.cells #[.int .i64 t1, .int .i64 t2, .int .i64 0] 28))
  rw [← hV] at XR4
  have XQ4 := hid (XQ3.out.alloc (.cells #[.int .i64 t1, .int .i64 t2, .int .i64 0] 28))
  rw [← hV] at XQ4
  have XA4 := hid (XA3.out.alloc (.cells #[.int .i64 t1, .int .i64 t2, .int .i64 0] 28))
  rw [← hV] at XA4
  have D4 := hid (D3.out.later (below1 w3 (.cells #[.int .i64 t1, .int .i64 t2, .int .i64 0] 28)))
  rw [← hV] at D4
  have C4 := hid (C3.out.later (below1 w3 (.cells #[.int .i64 t1, .int .i64 t2, .int .i64 0] 28)))
  rw [← hV] at C4
  have hR4 : Grew p w w4 := by rw [hV]; exact hR3.trans (Grew.alloc p _ _)
  have hz4 : w3.heap.size ≤ w4.heap.size := by rw [hV]; simp
  have H4 := hid hV
  clear hV XR3 XQ3 XA3 D3 C3
  have XX4 : Hid (Bx w4 w3.heap.size [.int .i64 t1, .int .i64 t2, .int .i64 0]) := by rw [H4.out]; exact Bx.new [.int .i64 t1, .int .i64 t2, .int .i64 0] _ rfl
  have hy4 : w3.heap.size < w4.heap.size := XX4.out.size
  go_wp2_with fail
  clear r0 rf0 r1 rf1 r2 rf2 r3 rf3 r4 rf4 rz q0 qf0 q1 qf1 q2 qf2 qz a0 af0 a1 af1 a2 af2 a3 af3 a4 af4 az
  rw [← H4.out]
  clear H4
  refine (sized_any p co cap bs k3 sd3 w4 hl (by omega) C4.out).mono ?_
  rintro e w5 ⟨⟨tv, rfl, _⟩, hD⟩
  obtain ⟨k5, sd5, hk5, hC5, hg5, hsz5⟩ := hD.grew
  have XR5 := hid (XR4.out.grew hg5 (by omega))
  have XQ5 := hid (XQ4.out.grew hg5 (by omega))
  have XA5 := hid (XA4.out.grew hg5 (by omega))
  have XX5 := hid (XX4.out.grew hg5 (by omega))
  have D5 := hid (D4.out.grew hg5 (by omega))
  have C5 := hid hC5
  have hR5 : Grew p w w5 := hR4.trans hg5
  have hz5 : w4.heap.size ≤ w5.heap.size := hg5.size
  clear XR4 XQ4 XA4 XX4 D4 C4 hD hg5 hC5 hsz5
  have r0 := XR5.out.c 0 rfl
  have rf0 := XR5.out.f 0 rfl
  have r1 := XR5.out.c 1 rfl
  have rf1 := XR5.out.f 1 rfl
  have r2 := XR5.out.c 2 rfl
  have rf2 := XR5.out.f 2 rfl
  have r3 := XR5.out.c 3 rfl
  have rf3 := XR5.out.f 3 rfl
  have r4 := XR5.out.c 4 rfl
  have rf4 := XR5.out.f 4 rfl
  have rz := XR5.out.size
  have q0 := XQ5.out.c 0 rfl
  have qf0 := XQ5.out.f 0 rfl
  have q1 := XQ5.out.c 1 rfl
  have qf1 := XQ5.out.f 1 rfl
  have q2 := XQ5.out.c 2 rfl
  have qf2 := XQ5.out.f 2 rfl
  have qz := XQ5.out.size
  have a0 := XA5.out.c 0 rfl
  have af0 := XA5.out.f 0 rfl
  have a1 := XA5.out.c 1 rfl
  have af1 := XA5.out.f 1 rfl
  have a2 := XA5.out.c 2 rfl
  have af2 := XA5.out.f 2 rfl
  have a3 := XA5.out.c 3 rfl
  have af3 := XA5.out.f 3 rfl
  have a4 := XA5.out.c 4 rfl
  have af4 := XA5.out.f 4 rfl
  have az := XA5.out.size
  have x0 := XX5.out.c 0 rfl
  have xf0 := XX5.out.f 0 rfl
  have x1 := XX5.out.c 1 rfl
  have xf1 := XX5.out.f 1 rfl
  have x2 := XX5.out.c 2 rfl
  have xf2 := XX5.out.f 2 rfl
  have xz := XX5.out.size
  obtain ⟨w6, hV⟩ : ∃ V, V = (w5.setCell ⟨w3.heap.size, 2, none⟩ (.int .i64 tv)) := ⟨_, rfl⟩
  have XR6 := hid ((XR5.out.other (a := ⟨w3.heap.size, 2, none⟩) (by dsimp only; omega) (.int .i64 tv)))
  rw [← hV] at XR6
  have XQ6 := hid ((XQ5.out.other (a := ⟨w3.heap.size, 2, none⟩) (by dsimp only; omega) (.int .i64 tv)))
  rw [← hV] at XQ6
  have XA6 := hid ((XA5.out.other (a := ⟨w3.heap.size, 2, none⟩) (by dsimp only; omega) (.int .i64 tv)))
  rw [← hV] at XA6
  have XX6 := hid ((XX5.out.set 2 (.int .i64 tv)))
  rw [← hV] at XX6
  have D6 := hid ((D5.out.setOff (a := ⟨w3.heap.size, 2, none⟩) (by dsimp only; omega) (.int .i64 tv)))
  rw [← hV] at D6
  have C6 := hid ((C5.out.other (a := ⟨w3.heap.size, 2, none⟩) (by dsimp only; omega) (.int .i64 tv)))
  rw [← hV] at C6
  have hR6 : Grew p w w6 := by rw [hV]; exact (hR5.set (a := ⟨w3.heap.size, 2, none⟩) (by dsimp only; omega) (.int .i64 tv))
  have hz6 : w5.heap.size ≤ w6.heap.size := by rw [hV]; simp
  have H6 := hid hV
  clear hV XR5 XQ5 XA5 XX5 D5 C5
  go_upto_region 5 with fail
  clear r0 rf0 r1 rf1 r2 rf2 r3 rf3 r4 rf4 rz q0 qf0 q1 qf1 q2 qf2 qz a0 af0 a1 af1 a2 af2 a3 af3 a4 af4 az x0 xf0 x1 xf1 x2 xf2 xz
  rw [← H6.out]
  clear H6
  have r0 := XR6.out.c 0 rfl
  have rf0 := XR6.out.f 0 rfl
  have r1 := XR6.out.c 1 rfl
  have rf1 := XR6.out.f 1 rfl
  have r2 := XR6.out.c 2 rfl
  have rf2 := XR6.out.f 2 rfl
  have r3 := XR6.out.c 3 rfl
  have rf3 := XR6.out.f 3 rfl
  have r4 := XR6.out.c 4 rfl
  have rf4 := XR6.out.f 4 rfl
  have rz := XR6.out.size
  have q0 := XQ6.out.c 0 rfl
  have qf0 := XQ6.out.f 0 rfl
  have q1 := XQ6.out.c 1 rfl
  have qf1 := XQ6.out.f 1 rfl
  have q2 := XQ6.out.c 2 rfl
  have qf2 := XQ6.out.f 2 rfl
  have qz := XQ6.out.size
  have a0 := XA6.out.c 0 rfl
  have af0 := XA6.out.f 0 rfl
  have a1 := XA6.out.c 1 rfl
  have af1 := XA6.out.f 1 rfl
  have a2 := XA6.out.c 2 rfl
  have af2 := XA6.out.f 2 rfl
  have a3 := XA6.out.c 3 rfl
  have af3 := XA6.out.f 3 rfl
  have a4 := XA6.out.c 4 rfl
  have af4 := XA6.out.f 4 rfl
  have az := XA6.out.size
  have x0 := XX6.out.c 0 rfl
  have xf0 := XX6.out.f 0 rfl
  have x1 := XX6.out.c 1 rfl
  have xf1 := XX6.out.f 1 rfl
  have x2 := XX6.out.c 2 rfl
  have xf2 := XX6.out.f 2 rfl
  have xz := XX6.out.size
  have PA0 : w6.drew.cell? ⟨w1.heap.size, 0, none⟩ = some (.int .i64 kap) := a0
  have PA1 : w6.drew.cell? ⟨w1.heap.size, 1, none⟩ = some (.bool cl) := a1
  have PA2 : w6.drew.cell? ⟨w1.heap.size, 2, none⟩ = some (.slice bo b.length bc) := a2
  have PA3 : w6.drew.cell? ⟨w1.heap.size, 3, none⟩ = some (.slice so s.length sc) := a3
  have PA4 : w6.drew.cell? ⟨w1.heap.size, 4, none⟩ = some (.slice ro r.length rc) := a4
  have PX0 : w6.drew.cell? ⟨w3.heap.size, 0, none⟩ = some (.int .i64 t1) := x0
  have PX1 : w6.drew.cell? ⟨w3.heap.size, 1, none⟩ = some (.int .i64 t2) := x1
  have PX2 : w6.drew.cell? ⟨w3.heap.size, 2, none⟩ = some (.int .i64 tv) := x2
  go_region
  clear r0 rf0 r1 rf1 r2 rf2 r3 rf3 r4 rf4 rz q0 qf0 q1 qf1 q2 qf2 qz a0 af0 a1 af1 a2 af2 a3 af3 a4 af4 az x0 xf0 x1 xf1 x2 xf2 xz
  obtain ⟨V, hV⟩ : ∃ V, V = ((((((((w6.setCell ⟨v.heap.size, 0, none⟩ (.int .i64 kap)).setCell ⟨v.heap.size, 1, none⟩ (.bool cl)).setCell ⟨v.heap.size, 2, none⟩ (.slice bo b.length bc)).setCell ⟨v.heap.size, 3, none⟩ (.slice so s.length sc)).setCell ⟨v.heap.size, 4, none⟩ (.slice ro r.length rc)).setCell ⟨v.heap.size + 1, 0, none⟩ (.int .i64 t1)).setCell ⟨v.heap.size + 1, 1, none⟩ (.int .i64 t2)).setCell ⟨v.heap.size + 1, 2, none⟩ (.int .i64 tv)).drew := ⟨_, rfl⟩
  have XRv : Bx V (v.heap.size) [.int .i64 kap, .bool cl, .slice bo b.length bc, .slice so s.length sc, .slice ro r.length rc] := by rw [hV]; exact Bx.drew (((((((((XR6.out.set 0 (.int .i64 kap)).set 1 (.bool cl)).set 2 (.slice bo b.length bc)).set 3 (.slice so s.length sc)).set 4 (.slice ro r.length rc)).other (a := ⟨v.heap.size + 1, 0, none⟩) (by dsimp only; omega) (.int .i64 t1)).other (a := ⟨v.heap.size + 1, 1, none⟩) (by dsimp only; omega) (.int .i64 t2)).other (a := ⟨v.heap.size + 1, 2, none⟩) (by dsimp only; omega) (.int .i64 tv)))
  have XQv : Bx V (v.heap.size + 1) [.int .i64 t1, .int .i64 t2, .int .i64 tv] := by rw [hV]; exact Bx.drew (((((((((XQ6.out.other (a := ⟨v.heap.size, 0, none⟩) (by dsimp only; omega) (.int .i64 kap)).other (a := ⟨v.heap.size, 1, none⟩) (by dsimp only; omega) (.bool cl)).other (a := ⟨v.heap.size, 2, none⟩) (by dsimp only; omega) (.slice bo b.length bc)).other (a := ⟨v.heap.size, 3, none⟩) (by dsimp only; omega) (.slice so s.length sc)).other (a := ⟨v.heap.size, 4, none⟩) (by dsimp only; omega) (.slice ro r.length rc)).set 0 (.int .i64 t1)).set 1 (.int .i64 t2)).set 2 (.int .i64 tv)))
  have D0 : XV w.heap.size w1.heap.size ((((((((w6.setCell ⟨v.heap.size, 0, none⟩ (.int .i64 kap)).setCell ⟨v.heap.size, 1, none⟩ (.bool cl)).setCell ⟨v.heap.size, 2, none⟩ (.slice bo b.length bc)).setCell ⟨v.heap.size, 3, none⟩ (.slice so s.length sc)).setCell ⟨v.heap.size, 4, none⟩ (.slice ro r.length rc)).setCell ⟨v.heap.size + 1, 0, none⟩ (.int .i64 t1)).setCell ⟨v.heap.size + 1, 1, none⟩ (.int .i64 t2)).setCell ⟨v.heap.size + 1, 2, none⟩ (.int .i64 tv)) bo bc b so sc s ro rc r := ((((((((D6.out.setOff (a := ⟨v.heap.size, 0, none⟩) (by dsimp only; omega) (.int .i64 kap)).setOff (a := ⟨v.heap.size, 1, none⟩) (by dsimp only; omega) (.bool cl)).setOff (a := ⟨v.heap.size, 2, none⟩) (by dsimp only; omega) (.slice bo b.length bc)).setOff (a := ⟨v.heap.size, 3, none⟩) (by dsimp only; omega) (.slice so s.length sc)).setOff (a := ⟨v.heap.size, 4, none⟩) (by dsimp only; omega) (.slice ro r.length rc)).setOff (a := ⟨v.heap.size + 1, 0, none⟩) (by dsimp only; omega) (.int .i64 t1)).setOff (a := ⟨v.heap.size + 1, 1, none⟩) (by dsimp only; omega) (.int .i64 t2)).setOff (a := ⟨v.heap.size + 1, 2, none⟩) (by dsimp only; omega) (.int .i64 tv))
  have D1 := D0.drew
  rw [← hV] at D1
  have hVs : w6.heap.size ≤ V.heap.size := by rw [hV]; simp
  have DV : Hid (XV v.heap.size V.heap.size V bo bc b so sc s ro rc r) := hid (D1.wide (by omega) (by omega))
  clear D0 D1
  have BV : Below v.heap.size v V := by rw [hV]; exact (((((((((hBv.trans (hR6.below (by omega) (by omega))).setCell (p := ⟨v.heap.size, 0, none⟩) (by simp <;> omega) (.int .i64 kap)).setCell (p := ⟨v.heap.size, 1, none⟩) (by simp <;> omega) (.bool cl)).setCell (p := ⟨v.heap.size, 2, none⟩) (by simp <;> omega) (.slice bo b.length bc)).setCell (p := ⟨v.heap.size, 3, none⟩) (by simp <;> omega) (.slice so s.length sc)).setCell (p := ⟨v.heap.size, 4, none⟩) (by simp <;> omega) (.slice ro r.length rc)).setCell (p := ⟨v.heap.size + 1, 0, none⟩) (by simp <;> omega) (.int .i64 t1)).setCell (p := ⟨v.heap.size + 1, 1, none⟩) (by simp <;> omega) (.int .i64 t2)).setCell (p := ⟨v.heap.size + 1, 2, none⟩) (by simp <;> omega) (.int .i64 tv)).drew
  rw [← hV]
  clear hV
  have r0 := XRv.c 0 rfl
  have r1 := XRv.c 1 rfl
  have r2 := XRv.c 2 rfl
  have r3 := XRv.c 3 rfl
  have r4 := XRv.c 4 rfl
  have q0 := XQv.c 0 rfl
  have q1 := XQv.c 1 rfl
  have q2 := XQv.c 2 rfl
  go_wp2
  refine bodyPost_ret (v := .tuple #[.agg #[.int .i64 kap, .bool cl, .slice bo b.length bc, .slice so s.length sc, .slice ro r.length rc], .agg #[.int .i64 t1, .int .i64 t2, .int .i64 tv]]) (by simp [results, Try.results4, go_sem, r0, r1, r2, r3, r4, q0, q1, q2]) rfl ?_
  exact ⟨⟨kap, cl, bo, bc, b, so, sc, s, ro, rc, r, t1, t2, tv, rfl, ⟨hs1, hs2, hs3⟩, DV.out⟩, BV⟩
end
section
open Go.RowKit

theorem Old.FreshCh.setOff {lo hi : Nat} {W : World} {bo : Option Addr} {bc : Nat} {b : List Int} {so : Option Addr} {sc : Nat} {s : List Old.T3} {ro : Option Addr} {rc : Nat} {r : List Old.T3} (h : Old.FreshCh lo hi W bo bc b so sc s ro rc r) {a : Addr} (ha : a.block < lo ∨ hi ≤ a.block) (u : Value) : Old.FreshCh lo hi (W.setCell a u) bo bc b so sc s ro rc r := by
  have hk : ∀ k, lo ≤ k → k < hi → k < W.heap.size → (W.setCell a u).heap[k]? = W.heap[k]? := fun k h1 h2 _ => Below.heap_setCell W a u k (by omega)
  exact ⟨h.1.keep hk, h.2.1.keep hk, h.2.2.1.keep hk, h.2.2.2⟩
theorem implSend_as (kap : Int) (cl : Bool) (bo : Option Addr) (bc : Nat) (b : List Int) (so : Option Addr) (sc : Nat) (s : List Old.T3) (ro : Option Addr) (rc : Nat) (r : List Old.T3) (t1 t2 tv : Int) (K : Int) (CL : Bool) (B : List Int) (S R : List Old.T3) (Kk : List Old.T4) (c : Int) (w : World) (h1 : b.length ≤ 1048576) (h2 : s.length ≤ 1048576) (h3 : r.length ≤ 1048576) (hz : Old.ChanIn w.heap.size w bo b so s ro r) (h : Old.sendR kap cl b s r (t1, t2, tv) = (K, CL, B, S, R, Kk, c)) :
    Calls Try.prog 5 #[.agg #[.int .i64 kap, .bool cl, .slice bo b.length bc, .slice so s.length sc, .slice ro r.length rc], .agg #[.int .i64 t1, .int .i64 t2, .int .i64 tv]] w fun e w' => (∃ bo' bc' so' sc' ro' rc' ko kc, e = .returned (.tuple #[.agg #[.int .i64 K, .bool CL, .slice bo' B.length bc', .slice so' S.length sc', .slice ro' R.length rc'], .slice ko Kk.length kc, .int .i64 c]) ∧ Old.FreshCh w.heap.size w'.heap.size w' bo' bc' B so' sc' S ro' rc' R ∧ Old.WokIn w'.heap.size w' ko Kk) ∧ Below w.heap.size w w' :=
  (Old.implSend_any kap cl bo bc b so sc s ro rc r t1 t2 tv w h1 h2 h3 hz).mono fun e w' hh => by
    rw [h] at hh
    obtain ⟨⟨bo', bc', so', sc', ro', rc', ko, kc, e, hF, hK⟩, hb⟩ := hh
    exact ⟨⟨bo', bc', so', sc', ro', rc', ko, kc, e, hF, hK.wok⟩, hb⟩
theorem implRecv_as (kap : Int) (cl : Bool) (bo : Option Addr) (bc : Nat) (b : List Int) (so : Option Addr) (sc : Nat) (s : List Old.T3) (ro : Option Addr) (rc : Nat) (r : List Old.T3) (t1 t2 tv : Int) (K : Int) (CL : Bool) (B : List Int) (S R : List Old.T3) (Kk : List Old.T4) (c : Int) (w : World) (h1 : b.length ≤ 1048576) (h2 : s.length ≤ 1048576) (h3 : r.length ≤ 1048576) (hz : Old.ChanIn w.heap.size w bo b so s ro r) (h : Old.recvR kap cl b s r (t1, t2, tv) = (K, CL, B, S, R, Kk, c)) :
    Calls Try.prog 7 #[.agg #[.int .i64 kap, .bool cl, .slice bo b.length bc, .slice so s.length sc, .slice ro r.length rc], .agg #[.int .i64 t1, .int .i64 t2, .int .i64 tv]] w fun e w' => (∃ bo' bc' so' sc' ro' rc' ko kc, e = .returned (.tuple #[.agg #[.int .i64 K, .bool CL, .slice bo' B.length bc', .slice so' S.length sc', .slice ro' R.length rc'], .slice ko Kk.length kc, .int .i64 c]) ∧ Old.FreshCh w.heap.size w'.heap.size w' bo' bc' B so' sc' S ro' rc' R ∧ Old.WokIn w'.heap.size w' ko Kk) ∧ Below w.heap.size w w' :=
  (Old.implRecv_any kap cl bo bc b so sc s ro rc r t1 t2 tv w h1 h2 h3 hz).mono fun e w' hh => by
    rw [h] at hh
    obtain ⟨⟨bo', bc', so', sc', ro', rc', ko, kc, e, hF, hK⟩, hb⟩ := hh
    exact ⟨⟨bo', bc', so', sc', ro', rc', ko, kc, e, hF, hK.wok⟩, hb⟩
theorem specSend_code (kap : Int) (cl : Bool) (bo : Option Addr) (bc : Nat) (b : List Int) (so : Option Addr) (sc : Nat) (s : List Old.T3) (ro : Option Addr) (rc : Nat) (r : List Old.T3) (t1 t2 tv : Int) (K : Int) (CL : Bool) (B : List Int) (S R : List Old.T3) (Kk : List Old.T4) (c : Int) (w : World) (h1 : b.length ≤ 1048576) (h2 : s.length ≤ 1048576) (h3 : r.length ≤ 1048576) (hz : Old.ChanIn w.heap.size w bo b so s ro r) (hwf : Old.Wf3 bo bc so sc ro rc) (h : Old.sendR kap cl b s r (t1, t2, tv) = (K, CL, B, S, R, Kk, c)) :
    Calls Try.prog 6 #[.agg #[.int .i64 kap, .bool cl, .slice bo b.length bc, .slice so s.length sc, .slice ro r.length rc], .agg #[.int .i64 t1, .int .i64 t2, .int .i64 tv]] w fun e w' => (∃ bo' bc' so' sc' ro' rc' ko kc, e = .returned (.tuple #[.agg #[.int .i64 K, .bool CL, .slice bo' B.length bc', .slice so' S.length sc', .slice ro' R.length rc'], .slice ko Kk.length kc, .int .i64 c])) ∧ Below w.heap.size w w' :=
  (Old.specSend_any kap cl bo bc b so sc s ro rc r t1 t2 tv w h1 h2 h3 hz hwf).mono fun e w' hh => by
    rw [h] at hh
    obtain ⟨⟨bo', bc', so', sc', ro', rc', ko, kc, e, _, _, _⟩, hb⟩ := hh
    exact ⟨⟨bo', bc', so', sc', ro', rc', ko, kc, e⟩, hb⟩
theorem vals_take (b : List Int) (s : List Old.T3) (j : Nat) (hj : j < s.length) : Old.vals b (s.take (j + 1)) = Old.vals b (s.take j) ++ [(Old.t3 s j).2.2] := by
  have e : s.take (j + 1) = s.take j ++ [Old.t3 s j] := by rw [List.take_add_one]; simp [Old.t3, hj]
  unfold Old.vals
  rw [e, List.map_append, List.append_assoc]
  rfl
theorem vals_len (b : List Int) (s : List Old.T3) : (Old.vals b s).length = b.length + s.length := by simp [Old.vals]
end
section
open Go.RowKit

set_option maxRecDepth 100000 in
set_option maxHeartbeats 16000000 in
theorem lawSent (co : Option Addr) (cap : Nat) (bs : List Int) (w : World) (hl : bs.length ≤ 9223372036854775807) (hb : BytesIn w.heap.size w co bs) :
    Calls Try.prog 3 #[.slice co bs.length cap] w fun e w' => e = .returned (.bool true) ∧ Below w.heap.size w w' := by
  by_cases hbig : 1048576 < (bs.length : Int)
  · go_enter Try.func3, Try.ntmps3
    go_wp2
    go_ret
    exact ⟨rfl, Below.refl _ _⟩
  have hB0 : Below w.heap.size w w := Below.refl _ _
  have hs0 : w.heap.size ≤ w.heap.size := Nat.le_refl _
  go_enter Try.func3, Try.ntmps3
  go_wp2_with fail
  refine (drawSend_any co cap bs w hl hb).mono ?_
  rintro e w1 ⟨⟨kap, cl, bo, bc, b, so, sc, s, ro, rc, r, t1, t2, tv, rfl, hlq, hD⟩, hb1⟩
  have hB1 := hB0.trans (hb1.mono hB0.size)
  have hs1 : w.heap.size ≤ w1.heap.size := Nat.le_trans hs0 hb1.size
  have hz1 : w.heap.size ≤ w1.heap.size := hb1.size
  have D1 := hid (hD)
  clear hb1 hD
  obtain ⟨hl1, hl2, hl3⟩ := hlq
  obtain ⟨K, CL, Bb, Ss, Rr, Kk, cd, hR⟩ : ∃ K CL Bb Ss Rr Kk cd, Old.sendR kap cl b s r (t1, t2, tv) = (K, CL, Bb, Ss, Rr, Kk, cd) := ⟨_, _, _, _, _, _, _, rfl⟩
  have hsh := send_short (kap := kap) (cl := cl) (b := b) (s := s) (r := r) (t := (t1, t2, tv))
  rw [hR] at hsh
  obtain ⟨hB41, hS41, hR41⟩ := hsh
  dsimp only at hB41 hS41 hR41
  have HR := hid hR
  clear hR
  obtain ⟨w2, hV⟩ : ∃ V, V = w1.alloc (.cells #[.int .i64 kap, .bool cl, .slice bo b.length bc, .slice so s.length sc, .slice ro r.length rc] 26) := ⟨_, rfl⟩
  have hz2 : w1.heap.size ≤ w2.heap.size := by rw [hV]; simp
  have hs2 : w.heap.size ≤ w2.heap.size := Nat.le_trans hs1 hz2
  have hB2 : Below w.heap.size w w2 := by rw [hV]; exact Below.allocS hB1 _
  have D2 := hid (D1.out.later (below1 w1 (.cells #[.int .i64 kap, .bool cl, .slice bo b.length bc, .slice so s.length sc, .slice ro r.length rc] 26)))
  rw [← hV] at D2
  have H2 : Hid (w2 = w1.alloc (.cells #[.int .i64 kap, .bool cl, .slice bo b.length bc, .slice so s.length sc, .slice ro r.length rc] 26)) := hV
  clear hV D1
  have XA2 : Hid (Bx w2 w1.heap.size [.int .i64 kap, .bool cl, .slice bo b.length bc, .slice so s.length sc, .slice ro r.length rc]) := by rw [H2.out]; exact Bx.new [.int .i64 kap, .bool cl, .slice bo b.length bc, .slice so s.length sc, .slice ro r.length rc] _ rfl
  have hy2 : w1.heap.size < w2.heap.size := XA2.out.size
  obtain ⟨w3, hV⟩ : ∃ V, V = w2.alloc (.cells #[.int .i64 t1, .int .i64 t2, .int .i64 tv] 28) := ⟨_, rfl⟩
  have hz3 : w2.heap.size ≤ w3.heap.size := by rw [hV]; simp
  have hs3 : w.heap.size ≤ w3.heap.size := Nat.le_trans hs2 hz3
  have hB3 : Below w.heap.size w w3 := by rw [hV]; exact Below.allocS hB2 _
  have XA3 := hid (XA2.out.alloc (.cells #[.int .i64 t1, .int .i64 t2, .int .i64 tv] 28))
  rw [← hV] at XA3
  have D3 := hid (D2.out.later (below1 w2 (.cells #[.int .i64 t1, .int .i64 t2, .int .i64 tv] 28)))
  rw [← hV] at D3
  have H3 : Hid (w3 = w2.alloc (.cells #[.int .i64 t1, .int .i64 t2, .int .i64 tv] 28)) := hV
  clear hV XA2 D2
  have XX3 : Hid (Bx w3 w2.heap.size [.int .i64 t1, .int .i64 t2, .int .i64 tv]) := by rw [H3.out]; exact Bx.new [.int .i64 t1, .int .i64 t2, .int .i64 tv] _ rfl
  have hy3 : w2.heap.size < w3.heap.size := XX3.out.size
  have hw1 : w2.heap.size = w1.heap.size + 1 := by rw [H2.out]; simp
  rw [hw1] at XX3 hy3
  clear hw1
  rw [H2.out] at H3
  go_wp2_with fail
  rw [← H3.out]
  refine (implSend_as kap cl bo bc b so sc s ro rc r t1 t2 tv K CL Bb Ss Rr Kk cd w3 (by omega) (by omega) (by omega) D3.out.chan HR.out).mono ?_
  rintro e w4 ⟨⟨bo1, bc1, so1, sc1, ro1, rc1, ko1, kc1, rfl, hF1, _⟩, hb4⟩
  have hB4 := hB3.trans (hb4.mono hB3.size)
  have hs4 : w.heap.size ≤ w4.heap.size := Nat.le_trans hs3 hb4.size
  have hz4 : w3.heap.size ≤ w4.heap.size := hb4.size
  have XA4 := hid (XA3.out.later hb4)
  have XX4 := hid (XX3.out.later hb4)
  have D4 := hid (D3.out.later hb4)
  clear XA3 XX3 D3
  have F4 := hid (hF1)
  clear hb4 hF1
  have a0 := XA4.out.c 0 rfl
  have af0 := XA4.out.f 0 rfl
  have a1 := XA4.out.c 1 rfl
  have af1 := XA4.out.f 1 rfl
  have a2 := XA4.out.c 2 rfl
  have af2 := XA4.out.f 2 rfl
  have a3 := XA4.out.c 3 rfl
  have af3 := XA4.out.f 3 rfl
  have a4 := XA4.out.c 4 rfl
  have af4 := XA4.out.f 4 rfl
  have az := XA4.out.size
  have x0 := XX4.out.c 0 rfl
  have xf0 := XX4.out.f 0 rfl
  have x1 := XX4.out.c 1 rfl
  have xf1 := XX4.out.f 1 rfl
  have x2 := XX4.out.c 2 rfl
  have xf2 := XX4.out.f 2 rfl
  have xz := XX4.out.size
  obtain ⟨w5, hV⟩ : ∃ V, V = w4.alloc (.cells #[.int .i64 K, .bool CL, .slice bo1 Bb.length bc1, .slice so1 Ss.length sc1, .slice ro1 Rr.length rc1] 26) := ⟨_, rfl⟩
  have hz5 : w4.heap.size ≤ w5.heap.size := by rw [hV]; simp
  have hs5 : w.heap.size ≤ w5.heap.size := Nat.le_trans hs4 hz5
  have hB5 : Below w.heap.size w w5 := by rw [hV]; exact Below.allocS hB4 _
  have XA5 := hid (XA4.out.alloc (.cells #[.int .i64 K, .bool CL, .slice bo1 Bb.length bc1, .slice so1 Ss.length sc1, .slice ro1 Rr.length rc1] 26))
  rw [← hV] at XA5
  have XX5 := hid (XX4.out.alloc (.cells #[.int .i64 K, .bool CL, .slice bo1 Bb.length bc1, .slice so1 Ss.length sc1, .slice ro1 Rr.length rc1] 26))
  rw [← hV] at XX5
  have D5 := hid (D4.out.later (below1 w4 (.cells #[.int .i64 K, .bool CL, .slice bo1 Bb.length bc1, .slice so1 Ss.length sc1, .slice ro1 Rr.length rc1] 26)))
  rw [← hV] at D5
  have F5 := hid (F4.out.later (below1 w4 (.cells #[.int .i64 K, .bool CL, .slice bo1 Bb.length bc1, .slice so1 Ss.length sc1, .slice ro1 Rr.length rc1] 26)))
  rw [← hV] at F5
  have H5 : Hid (w5 = w4.alloc (.cells #[.int .i64 K, .bool CL, .slice bo1 Bb.length bc1, .slice so1 Ss.length sc1, .slice ro1 Rr.length rc1] 26)) := hV
  clear hV XA4 XX4 D4 F4
  have XY5 : Hid (Bx w5 w4.heap.size [.int .i64 K, .bool CL, .slice bo1 Bb.length bc1, .slice so1 Ss.length sc1, .slice ro1 Rr.length rc1]) := by rw [H5.out]; exact Bx.new [.int .i64 K, .bool CL, .slice bo1 Bb.length bc1, .slice so1 Ss.length sc1, .slice ro1 Rr.length rc1] _ rfl
  have hy5 : w4.heap.size < w5.heap.size := XY5.out.size
  go_wp2_with fail
  clear a0 af0 a1 af1 a2 af2 a3 af3 a4 af4 az x0 xf0 x1 xf1 x2 xf2 xz
  rw [← H5.out]
  refine (specSend_code kap cl bo bc b so sc s ro rc r t1 t2 tv K CL Bb Ss Rr Kk cd w5 (by omega) (by omega) (by omega) D5.out.chan D5.out.wf HR.out).mono ?_
  rintro e w6 ⟨⟨bo2, bc2, so2, sc2, ro2, rc2, ko2, kc2, rfl⟩, hb6⟩
  have hB6 := hB5.trans (hb6.mono hB5.size)
  have hs6 : w.heap.size ≤ w6.heap.size := Nat.le_trans hs5 hb6.size
  have hz6 : w5.heap.size ≤ w6.heap.size := hb6.size
  have XA6 := hid (XA5.out.later hb6)
  have XX6 := hid (XX5.out.later hb6)
  have XY6 := hid (XY5.out.later hb6)
  have D6 := hid (D5.out.later hb6)
  have F6 := hid (F5.out.later hb6)
  clear XA5 XX5 XY5 D5 F5
  clear hb6
  have a0 := XA6.out.c 0 rfl
  have af0 := XA6.out.f 0 rfl
  have a1 := XA6.out.c 1 rfl
  have af1 := XA6.out.f 1 rfl
  have a2 := XA6.out.c 2 rfl
  have af2 := XA6.out.f 2 rfl
  have a3 := XA6.out.c 3 rfl
  have af3 := XA6.out.f 3 rfl
  have a4 := XA6.out.c 4 rfl
  have af4 := XA6.out.f 4 rfl
  have az := XA6.out.size
  have x0 := XX6.out.c 0 rfl
  have xf0 := XX6.out.f 0 rfl
  have x1 := XX6.out.c 1 rfl
  have xf1 := XX6.out.f 1 rfl
  have x2 := XX6.out.c 2 rfl
  have xf2 := XX6.out.f 2 rfl
  have xz := XX6.out.size
  have y0 := XY6.out.c 0 rfl
  have yf0 := XY6.out.f 0 rfl
  have y1 := XY6.out.c 1 rfl
  have yf1 := XY6.out.f 1 rfl
  have y2 := XY6.out.c 2 rfl
  have yf2 := XY6.out.f 2 rfl
  have y3 := XY6.out.c 3 rfl
  have yf3 := XY6.out.f 3 rfl
  have y4 := XY6.out.c 4 rfl
  have yf4 := XY6.out.f 4 rfl
  have yz := XY6.out.size
  obtain ⟨w7, hV⟩ : ∃ V, V = w6.alloc (.cells #[.int .i64 K, .bool CL, .slice bo2 Bb.length bc2, .slice so2 Ss.length sc2, .slice ro2 Rr.length rc2] 26) := ⟨_, rfl⟩
  have hz7 : w6.heap.size ≤ w7.heap.size := by rw [hV]; simp
  have hs7 : w.heap.size ≤ w7.heap.size := Nat.le_trans hs6 hz7
  have hB7 : Below w.heap.size w w7 := by rw [hV]; exact Below.allocS hB6 _
  have XA7 := hid (XA6.out.alloc (.cells #[.int .i64 K, .bool CL, .slice bo2 Bb.length bc2, .slice so2 Ss.length sc2, .slice ro2 Rr.length rc2] 26))
  rw [← hV] at XA7
  have XX7 := hid (XX6.out.alloc (.cells #[.int .i64 K, .bool CL, .slice bo2 Bb.length bc2, .slice so2 Ss.length sc2, .slice ro2 Rr.length rc2] 26))
  rw [← hV] at XX7
  have XY7 := hid (XY6.out.alloc (.cells #[.int .i64 K, .bool CL, .slice bo2 Bb.length bc2, .slice so2 Ss.length sc2, .slice ro2 Rr.length rc2] 26))
  rw [← hV] at XY7
  have D7 := hid (D6.out.later (below1 w6 (.cells #[.int .i64 K, .bool CL, .slice bo2 Bb.length bc2, .slice so2 Ss.length sc2, .slice ro2 Rr.length rc2] 26)))
  rw [← hV] at D7
  have F7 := hid (F6.out.later (below1 w6 (.cells #[.int .i64 K, .bool CL, .slice bo2 Bb.length bc2, .slice so2 Ss.length sc2, .slice ro2 Rr.length rc2] 26)))
  rw [← hV] at F7
  have H7 : Hid (w7 = w6.alloc (.cells #[.int .i64 K, .bool CL, .slice bo2 Bb.length bc2, .slice so2 Ss.length sc2, .slice ro2 Rr.length rc2] 26)) := hV
  clear hV XA6 XX6 XY6 D6 F6
  have XT7 : Hid (Bx w7 w6.heap.size [.int .i64 K, .bool CL, .slice bo2 Bb.length bc2, .slice so2 Ss.length sc2, .slice ro2 Rr.length rc2]) := by rw [H7.out]; exact Bx.new [.int .i64 K, .bool CL, .slice bo2 Bb.length bc2, .slice so2 Ss.length sc2, .slice ro2 Rr.length rc2] _ rfl
  have hy7 : w6.heap.size < w7.heap.size := XT7.out.size
  go_upto_region 6 with fail
  clear a0 af0 a1 af1 a2 af2 a3 af3 a4 af4 az x0 xf0 x1 xf1 x2 xf2 xz y0 yf0 y1 yf1 y2 yf2 y3 yf3 y4 yf4 yz
  rw [← H7.out]
  have hce : (cd != cd) = false := by simp
  by_cases hc : 1 < cd
  case pos =>
    have hc1 : decide (1 < cd) = true := by simpa using hc
    have a0 := XA7.out.c 0 rfl
    have af0 := XA7.out.f 0 rfl
    have a1 := XA7.out.c 1 rfl
    have af1 := XA7.out.f 1 rfl
    have a2 := XA7.out.c 2 rfl
    have af2 := XA7.out.f 2 rfl
    have a3 := XA7.out.c 3 rfl
    have af3 := XA7.out.f 3 rfl
    have a4 := XA7.out.c 4 rfl
    have af4 := XA7.out.f 4 rfl
    have az := XA7.out.size
    have x0 := XX7.out.c 0 rfl
    have xf0 := XX7.out.f 0 rfl
    have x1 := XX7.out.c 1 rfl
    have xf1 := XX7.out.f 1 rfl
    have x2 := XX7.out.c 2 rfl
    have xf2 := XX7.out.f 2 rfl
    have xz := XX7.out.size
    have y0 := XY7.out.c 0 rfl
    have yf0 := XY7.out.f 0 rfl
    have y1 := XY7.out.c 1 rfl
    have yf1 := XY7.out.f 1 rfl
    have y2 := XY7.out.c 2 rfl
    have yf2 := XY7.out.f 2 rfl
    have y3 := XY7.out.c 3 rfl
    have yf3 := XY7.out.f 3 rfl
    have y4 := XY7.out.c 4 rfl
    have yf4 := XY7.out.f 4 rfl
    have yz := XY7.out.size
    have t0 := XT7.out.c 0 rfl
    have tf0 := XT7.out.f 0 rfl
    have t1 := XT7.out.c 1 rfl
    have tf1 := XT7.out.f 1 rfl
    have t2 := XT7.out.c 2 rfl
    have tf2 := XT7.out.f 2 rfl
    have t3 := XT7.out.c 3 rfl
    have tf3 := XT7.out.f 3 rfl
    have t4 := XT7.out.c 4 rfl
    have tf4 := XT7.out.f 4 rfl
    have tz := XT7.out.size
    go_wp2
    go_ret
    exact ⟨rfl, hB7⟩
  have hc1 : decide (1 < cd) = false := by simpa using hc
  by_cases hr : 0 < r.length
  case pos =>
    have hr1 : decide ((0 : Int) < (r.length : Int)) = true := by simp; omega
    have a0 := XA7.out.c 0 rfl
    have af0 := XA7.out.f 0 rfl
    have a1 := XA7.out.c 1 rfl
    have af1 := XA7.out.f 1 rfl
    have a2 := XA7.out.c 2 rfl
    have af2 := XA7.out.f 2 rfl
    have a3 := XA7.out.c 3 rfl
    have af3 := XA7.out.f 3 rfl
    have a4 := XA7.out.c 4 rfl
    have af4 := XA7.out.f 4 rfl
    have az := XA7.out.size
    have x0 := XX7.out.c 0 rfl
    have xf0 := XX7.out.f 0 rfl
    have x1 := XX7.out.c 1 rfl
    have xf1 := XX7.out.f 1 rfl
    have x2 := XX7.out.c 2 rfl
    have xf2 := XX7.out.f 2 rfl
    have xz := XX7.out.size
    have y0 := XY7.out.c 0 rfl
    have yf0 := XY7.out.f 0 rfl
    have y1 := XY7.out.c 1 rfl
    have yf1 := XY7.out.f 1 rfl
    have y2 := XY7.out.c 2 rfl
    have yf2 := XY7.out.f 2 rfl
    have y3 := XY7.out.c 3 rfl
    have yf3 := XY7.out.f 3 rfl
    have y4 := XY7.out.c 4 rfl
    have yf4 := XY7.out.f 4 rfl
    have yz := XY7.out.size
    have t0 := XT7.out.c 0 rfl
    have tf0 := XT7.out.f 0 rfl
    have t1 := XT7.out.c 1 rfl
    have tf1 := XT7.out.f 1 rfl
    have t2 := XT7.out.c 2 rfl
    have tf2 := XT7.out.f 2 rfl
    have t3 := XT7.out.c 3 rfl
    have tf3 := XT7.out.f 3 rfl
    have t4 := XT7.out.c 4 rfl
    have tf4 := XT7.out.f 4 rfl
    have tz := XT7.out.size
    go_wp2
    go_ret
    exact ⟨rfl, hB7⟩
  obtain rfl : r = [] := List.length_eq_zero_iff.1 (by omega)
  obtain ⟨rfl, rfl, rfl, rfl, hg, hvals⟩ := Old.send_open HR.out (by omega)
  have HG := hid hg
  have HV := hid hvals
  clear hg hvals hce hr
  have XAt : Hid (Bx w7 w1.heap.size [.int .i64 K, .bool false, .slice bo b.length bc, .slice so s.length sc, .slice ro 0 rc]) := XA7
  clear XA7
  have XA7 := XAt
  clear XAt
  have XYt : Hid (Bx w7 w4.heap.size [.int .i64 K, .bool false, .slice bo1 Bb.length bc1, .slice so1 Ss.length sc1, .slice ro1 0 rc1]) := XY7
  clear XY7
  have XY7 := XYt
  clear XYt
  have a0 := XA7.out.c 0 rfl
  have af0 := XA7.out.f 0 rfl
  have a1 := XA7.out.c 1 rfl
  have af1 := XA7.out.f 1 rfl
  have a2 := XA7.out.c 2 rfl
  have af2 := XA7.out.f 2 rfl
  have a3 := XA7.out.c 3 rfl
  have af3 := XA7.out.f 3 rfl
  have a4 := XA7.out.c 4 rfl
  have af4 := XA7.out.f 4 rfl
  have az := XA7.out.size
  have x0 := XX7.out.c 0 rfl
  have xf0 := XX7.out.f 0 rfl
  have x1 := XX7.out.c 1 rfl
  have xf1 := XX7.out.f 1 rfl
  have x2 := XX7.out.c 2 rfl
  have xf2 := XX7.out.f 2 rfl
  have xz := XX7.out.size
  have y0 := XY7.out.c 0 rfl
  have yf0 := XY7.out.f 0 rfl
  have y1 := XY7.out.c 1 rfl
  have yf1 := XY7.out.f 1 rfl
  have y2 := XY7.out.c 2 rfl
  have yf2 := XY7.out.f 2 rfl
  have y3 := XY7.out.c 3 rfl
  have yf3 := XY7.out.f 3 rfl
  have y4 := XY7.out.c 4 rfl
  have yf4 := XY7.out.f 4 rfl
  have yz := XY7.out.size
  have t0 := XT7.out.c 0 rfl
  have tf0 := XT7.out.f 0 rfl
  have t1 := XT7.out.c 1 rfl
  have tf1 := XT7.out.f 1 rfl
  have t2 := XT7.out.c 2 rfl
  have tf2 := XT7.out.f 2 rfl
  have t3 := XT7.out.c 3 rfl
  have tf3 := XT7.out.f 3 rfl
  have t4 := XT7.out.c 4 rfl
  have tf4 := XT7.out.f 4 rfl
  have tz := XT7.out.size
  go_upto_region 11 with fail
  clear a0 af0 a1 af1 a2 af2 a3 af3 a4 af4 az x0 xf0 x1 xf1 x2 xf2 xz y0 yf0 y1 yf1 y2 yf2 y3 yf3 y4 yf4 yz t0 tf0 t1 tf1 t2 tf2 t3 tf3 t4 tf4 tz
  have a0 := XA7.out.c 0 rfl
  have af0 := XA7.out.f 0 rfl
  have a1 := XA7.out.c 1 rfl
  have af1 := XA7.out.f 1 rfl
  have a2 := XA7.out.c 2 rfl
  have af2 := XA7.out.f 2 rfl
  have a3 := XA7.out.c 3 rfl
  have af3 := XA7.out.f 3 rfl
  have a4 := XA7.out.c 4 rfl
  have af4 := XA7.out.f 4 rfl
  have az := XA7.out.size
  have x0 := XX7.out.c 0 rfl
  have xf0 := XX7.out.f 0 rfl
  have x1 := XX7.out.c 1 rfl
  have xf1 := XX7.out.f 1 rfl
  have x2 := XX7.out.c 2 rfl
  have xf2 := XX7.out.f 2 rfl
  have xz := XX7.out.size
  have y0 := XY7.out.c 0 rfl
  have yf0 := XY7.out.f 0 rfl
  have y1 := XY7.out.c 1 rfl
  have yf1 := XY7.out.f 1 rfl
  have y2 := XY7.out.c 2 rfl
  have yf2 := XY7.out.f 2 rfl
  have y3 := XY7.out.c 3 rfl
  have yf3 := XY7.out.f 3 rfl
  have y4 := XY7.out.c 4 rfl
  have yf4 := XY7.out.f 4 rfl
  have yz := XY7.out.size
  have t0 := XT7.out.c 0 rfl
  have tf0 := XT7.out.f 0 rfl
  have t1 := XT7.out.c 1 rfl
  have tf1 := XT7.out.f 1 rfl
  have t2 := XT7.out.c 2 rfl
  have tf2 := XT7.out.f 2 rfl
  have t3 := XT7.out.c 3 rfl
  have tf3 := XT7.out.f 3 rfl
  have t4 := XT7.out.c 4 rfl
  have tf4 := XT7.out.f 4 rfl
  have tz := XT7.out.size
  go_wp2_with (at_builtin; refine Kind.app kI_ok w7 rfl (.tmp 55) (.tmp 57) rfl w7.heap.size (.slice none 0 0) [] rfl (Kind.Own.nil _ _ _) (Nat.le_refl _) bo b b.length bc rfl rfl D7.out.wf.1 _ D7.out.1.in (by simp; omega) ?_; intro v1 wa hO hB _ _; have HO := hid hO; have HBa := hid hB; have a02 := (XA7.out.later hB).c 0 rfl; have a12 := (XA7.out.later hB).c 1 rfl; have a22 := (XA7.out.later hB).c 2 rfl; have a32 := (XA7.out.later hB).c 3 rfl; have a42 := (XA7.out.later hB).c 4 rfl; have x02 := (XX7.out.later hB).c 0 rfl; have x12 := (XX7.out.later hB).c 1 rfl; have x22 := (XX7.out.later hB).c 2 rfl; clear hO hB)
  clear a0 af0 a1 af1 a2 af2 a3 af3 a4 af4 az x0 xf0 x1 xf1 x2 xf2 xz y0 yf0 y1 yf1 y2 yf2 y3 yf3 y4 yf4 yz t0 tf0 t1 tf1 t2 tf2 t3 tf3 t4 tf4 tz
  clear a02 a12 a22 a32 a42 x02 x12 x22
  go_loopw [11, 62] (fun v i wr => ∃ j : Nat, j ≤ s.length ∧ i = .int .i64 (j : Int) ∧ Hid (kI.Own w7.heap.size wr v (Old.vals b (s.take j))) ∧ Hid (Below w7.heap.size w7 wr)) (fun _ i _ => s.length - (intOf i).toNat)
  case atStart => exact ⟨0, Nat.zero_le _, rfl, by simpa [Old.vals] using HO, HBa⟩
  case round =>
    clear HO HBa
    obtain ⟨j, hj, rfl, HO, HBa⟩ := hrel
    by_cases hlt : j < s.length
    case pos =>
      obtain ⟨sb, sf, rfl, hsb, hsc⟩ := (D7.out.chan.2.1).pos hlt
      obtain ⟨⟨x1, x2, x3⟩, ex⟩ : ∃ x, x = Old.t3 s j := ⟨_, rfl⟩
      have q1 := (HBa.out.cell (p := ⟨sb, sf + j * 3, none⟩) hsb).trans (hsc j hlt).1
      have q2 := (HBa.out.cell (p := ⟨sb, sf + j * 3 + 1, none⟩) hsb).trans (hsc j hlt).2.1
      have q3 := (HBa.out.cell (p := ⟨sb, sf + j * 3 + 2, none⟩) hsb).trans (hsc j hlt).2.2
      rw [← ex] at q1 q2 q3
      dsimp only at q1 q2 q3
      have HVT := hid (vals_take b s j hlt)
      rw [← ex] at HVT
      dsimp only at HVT
      clear hsc ex
      have hltI : (j : Int) < (s.length : Int) := by omega
      have hvl := vals_len b (s.take j)
      have hvj : (Old.vals b (s.take j)).length ≤ 84 := by rw [hvl]; simp; omega
      clear hvl
      have HO1 := hid ((HO.out.below (below1 wr (.cells #[.int .i64 x1, .int .i64 x2, .int .i64 x3] 28))).below (below1 _ (.cells #[.int .i64 x3] 3)))
      have hbw : Hid (Below w7.heap.size w7 ((wr.alloc (.cells #[.int .i64 x1, .int .i64 x2, .int .i64 x3] 28)).alloc (.cells #[.int .i64 x3] 3))) := hid (Below.allocS (Below.allocS HBa.out _) _)
      have HI1 : Hid (kI.In (wr.heap.size + 1 + 1) ((wr.alloc (.cells #[.int .i64 x1, .int .i64 x2, .int .i64 x3] 28)).alloc (.cells #[.int .i64 x3] 3)) (some ⟨wr.heap.size + 1, 0, none⟩) [x3]) := int_one (by omega) (by simp)
      have hsz := HBa.out.size
      go_wp2_with (at_builtin; refine Kind.app kI_ok ((wr.alloc (.cells #[.int .i64 x1, .int .i64 x2, .int .i64 x3] 28)).alloc (.cells #[.int .i64 x3] 3)) rfl (.tmp 66) (.tmp 69) rfl w7.heap.size _ (Old.vals b (s.take j)) rfl HO1.out (by simp <;> omega) (some ⟨wr.heap.size + 1, 0, none⟩) [x3] 1 1 rfl rfl (fun e => by cases e) _ HI1.out (by simp; omega) ?_; intro v2 wb hO2 hB2 _ _; have HO2 := hid hO2; have HB2 := hid (hbw.out.trans hB2); clear hO2 hB2)
      go_roundw
      case rel => exact ⟨j + 1, by omega, by go_num, by rw [HVT.out]; exact HO2, HB2⟩
      case measure => simp [intOf]; omega
    obtain rfl : j = s.length := by omega
    rw [List.take_length] at HO
    clear hlt hj
    have hx2 := (XX7.out.later HBa.out).c 2 rfl
    have hvl := vals_len b s
    have hvj : (Old.vals b s).length ≤ 84 := by rw [hvl]; omega
    clear hvl
    have HO1 := hid (HO.out.below (below1 wr (.cells #[.int .i64 tv] 3)))
    have hbw : Hid (Below w7.heap.size w7 (wr.alloc (.cells #[.int .i64 tv] 3))) := hid (Below.allocS HBa.out _)
    have HI1 : Hid (kI.In (wr.heap.size + 1) (wr.alloc (.cells #[.int .i64 tv] 3)) (some ⟨wr.heap.size, 0, none⟩) [tv]) := int_one (by omega) (by simp)
    have hsz := HBa.out.size
    go_wp2_with (at_builtin; refine Kind.app kI_ok (wr.alloc (.cells #[.int .i64 tv] 3)) rfl (.tmp 72) (.tmp 75) rfl w7.heap.size _ (Old.vals b s) rfl HO1.out (by simp <;> omega) (some ⟨wr.heap.size, 0, none⟩) [tv] 1 1 rfl rfl (fun e => by cases e) _ HI1.out (by simp; omega) ?_; intro v2 wb hO2 hB2 _ _; have HO2 := hid hO2; have HB2 := hid (hbw.out.trans hB2); obtain ⟨wo, wc, rfl, hO3⟩ := hO2.as; obtain ⟨wl, hwl⟩ : ∃ wl, wl = Old.vals b s ++ [tv] := ⟨_, rfl⟩; have hwl1 : wl.length ≤ 85 := (by rw [hwl]; simp; omega); have hwl0 : 0 < wl.length := (by rw [hwl]; simp); rw [← hwl] at hO3 ⊢; have HWL := hid hwl; have HO3 := hid (Kind.RW.of hO3); clear hO2 hB2 hO3 hwl HO2)
    obtain ⟨gb, gf, rfl, _, _⟩ := ints_at HO3.out.in hwl0
    have XYb := hid (XY7.out.later HB2.out)
    have Fb := hid (F7.out.later HB2.out)
    have hBb := hB7.trans (HB2.out.mono hB7.size)
    have hszb := HB2.out.size
    have hVW : Old.vals Bb Ss = wl := by rw [HWL.out]; exact HV.out
    have HVW := hid hVW
    clear hVW
    go_loopw [79] (fun i wr => ∃ (j lo2 hi2 : Nat) (bo2 : Option Addr) (bc2 : Nat) (B2 : List Int) (so2 : Option Addr) (sc2 : Nat) (S2 : List Old.T3) (ro2 : Option Addr) (rc2 : Nat), i = .int .i64 (j : Int) ∧ j ≤ wl.length ∧ Hid (Old.goodC K false B2 S2 [] = true ∧ Old.vals B2 S2 = wl.drop j) ∧ Hid (Bx wr w4.heap.size [.int .i64 K, .bool false, .slice bo2 B2.length bc2, .slice so2 S2.length sc2, .slice ro2 0 rc2]) ∧ Hid (Old.FreshCh lo2 hi2 wr bo2 bc2 B2 so2 sc2 S2 ro2 rc2 []) ∧ (w4.heap.size < lo2 ∨ hi2 ≤ w4.heap.size) ∧ Hid (kI.RW w7.heap.size wb.heap.size wr (some ⟨gb, gf, none⟩) wc wl) ∧ Hid (Below w.heap.size w wr) ∧ wb.heap.size ≤ wr.heap.size) (fun i _ => wl.length - (intOf i).toNat)
    case atStart => exact ⟨0, _, _, bo1, bc1, Bb, so1, sc1, Ss, ro1, rc1, rfl, Nat.zero_le _, hid ⟨HG.out, HVW.out⟩, XYb, Fb, by omega, HO3, hid hBb, Nat.le_refl _⟩
    case round =>
      clear HO3 XYb Fb hBb
      obtain ⟨j, lo2, hi2, bo2, bc2, B2, so2, sc2, S2, ro2, rc2, rfl, hj, HGV, XY100, F100, hYA, M100, hB100h, hsw⟩ := hrel
      have hB100 := hB100h.out
      have hs100 : w.heap.size ≤ wr.heap.size := hB100.size
      have hlen : B2.length + S2.length ≤ 85 := by have h := congrArg List.length HGV.out.2; rw [vals_len] at h; simp at h; omega
      by_cases hlt2 : j < wl.length
      case pos =>
        obtain ⟨v, hv⟩ : ∃ v, v = el wl j := ⟨_, rfl⟩
        obtain ⟨gb2, gf2, e, hgb, hgc⟩ := ints_at M100.out.in hlt2
        cases e
        have hw1 := hgc j hlt2
        rw [← hv] at hw1
        have hvc : Old.vals B2 S2 = v :: wl.drop (j + 1) := by rw [HGV.out.2, hv, List.drop_eq_getElem_cons hlt2]; simp [el, hlt2]
        obtain ⟨B3, S3, K3, hrec, hg3, hv3⟩ := Old.recv_step HGV.out.1 hvc
        have HREC := hid hrec
        have HN3 := hid (And.intro hg3 hv3)
        clear hrec hg3 hv3 hvc hgc hv
        have hlt2I : (j : Int) < (wl.length : Int) := by omega
        have y0 := XY100.out.c 0 rfl
        have yf0 := XY100.out.f 0 rfl
        have y1 := XY100.out.c 1 rfl
        have yf1 := XY100.out.f 1 rfl
        have y2 := XY100.out.c 2 rfl
        have yf2 := XY100.out.f 2 rfl
        have y3 := XY100.out.c 3 rfl
        have yf3 := XY100.out.f 3 rfl
        have y4 := XY100.out.c 4 rfl
        have yf4 := XY100.out.f 4 rfl
        have yz := XY100.out.size
        go_wp2_with fail
        clear y0 yf0 y1 yf1 y2 yf2 y3 yf3 y4 yf4 yz
        refine (implRecv_as K false bo2 bc2 B2 so2 sc2 S2 ro2 rc2 [] 29 0 0 K false B3 S3 [] ((29, 0, v, true) :: K3) 0 wr (by omega) (by omega) (by simp) F100.out.chan HREC.out).mono ?_
        rintro e w101 ⟨⟨bo3, bc3, so3, sc3, ro3, rc3, ko, kc, rfl, hF3, hK3⟩, hb101⟩
        have hB101 := hB100.trans (hb101.mono hB100.size)
        have hs101 : w.heap.size ≤ w101.heap.size := Nat.le_trans hs100 hb101.size
        have hz101 : wr.heap.size ≤ w101.heap.size := hb101.size
        have XY101 := hid (XY100.out.later hb101)
        have F101 := hid (F100.out.later hb101)
        have M101 := hid (M100.out.later hb101)
        clear XY100 F100 M100
        have G101 := hid (hF3)
        have N101 := hid (hK3)
        clear hb101 hF3 hK3
        clear hw1
        obtain ⟨kb, kf, rfl, hkb, hkc⟩ := N101.out.pos (k := 0) (by simp)
        have hk0 := (hkc 0 (by simp)).1
        have hk2 := (hkc 0 (by simp)).2.2.1
        have hk3 := (hkc 0 (by simp)).2.2.2
        simp [Old.t4] at hk0 hk2 hk3
        clear hkc
        have hke : ((K3.length : Int) + 1 == 0) = false := by simp; omega
        have hvv : (v != v) = false := by simp
        have hkp : (0 : Int) < (K3.length : Int) + 1 := by omega
        clear N101
        have y0 := XY101.out.c 0 rfl
        have yf0 := XY101.out.f 0 rfl
        have y1 := XY101.out.c 1 rfl
        have yf1 := XY101.out.f 1 rfl
        have y2 := XY101.out.c 2 rfl
        have yf2 := XY101.out.f 2 rfl
        have y3 := XY101.out.c 3 rfl
        have yf3 := XY101.out.f 3 rfl
        have y4 := XY101.out.c 4 rfl
        have yf4 := XY101.out.f 4 rfl
        have yz := XY101.out.size
        obtain ⟨w102, hV⟩ : ∃ V, V = w101.alloc (.cells #[.int .i64 K, .bool false, .slice bo3 B3.length bc3, .slice so3 S3.length sc3, .slice ro3 0 rc3] 26) := ⟨_, rfl⟩
        have hz102 : w101.heap.size ≤ w102.heap.size := by rw [hV]; simp
        have hs102 : w.heap.size ≤ w102.heap.size := Nat.le_trans hs101 hz102
        have hB102 : Below w.heap.size w w102 := by rw [hV]; exact Below.allocS hB101 _
        have XY102 := hid (XY101.out.alloc (.cells #[.int .i64 K, .bool false, .slice bo3 B3.length bc3, .slice so3 S3.length sc3, .slice ro3 0 rc3] 26))
        rw [← hV] at XY102
        have F102 := hid (F101.out.later (below1 w101 (.cells #[.int .i64 K, .bool false, .slice bo3 B3.length bc3, .slice so3 S3.length sc3, .slice ro3 0 rc3] 26)))
        rw [← hV] at F102
        have M102 := hid (M101.out.later (below1 w101 (.cells #[.int .i64 K, .bool false, .slice bo3 B3.length bc3, .slice so3 S3.length sc3, .slice ro3 0 rc3] 26)))
        rw [← hV] at M102
        have G102 := hid (G101.out.later (below1 w101 (.cells #[.int .i64 K, .bool false, .slice bo3 B3.length bc3, .slice so3 S3.length sc3, .slice ro3 0 rc3] 26)))
        rw [← hV] at G102
        have H102 : Hid (w102 = w101.alloc (.cells #[.int .i64 K, .bool false, .slice bo3 B3.length bc3, .slice so3 S3.length sc3, .slice ro3 0 rc3] 26)) := hV
        clear hV XY101 F101 M101 G101
        have XQ102 : Hid (Bx w102 w101.heap.size [.int .i64 K, .bool false, .slice bo3 B3.length bc3, .slice so3 S3.length sc3, .slice ro3 0 rc3]) := by rw [H102.out]; exact Bx.new [.int .i64 K, .bool false, .slice bo3 B3.length bc3, .slice so3 S3.length sc3, .slice ro3 0 rc3] _ rfl
        have hy102 : w101.heap.size < w102.heap.size := XQ102.out.size
        go_upto_region 24 with fail
        clear y0 yf0 y1 yf1 y2 yf2 y3 yf3 y4 yf4 yz
        rw [← H102.out]
        clear hk0 hk2 hk3 hkb
        clear F102
        have y0 := XY102.out.c 0 rfl
        have yf0 := XY102.out.f 0 rfl
        have y1 := XY102.out.c 1 rfl
        have yf1 := XY102.out.f 1 rfl
        have y2 := XY102.out.c 2 rfl
        have yf2 := XY102.out.f 2 rfl
        have y3 := XY102.out.c 3 rfl
        have yf3 := XY102.out.f 3 rfl
        have y4 := XY102.out.c 4 rfl
        have yf4 := XY102.out.f 4 rfl
        have yz := XY102.out.size
        have q0 := XQ102.out.c 0 rfl
        have qf0 := XQ102.out.f 0 rfl
        have q1 := XQ102.out.c 1 rfl
        have qf1 := XQ102.out.f 1 rfl
        have q2 := XQ102.out.c 2 rfl
        have qf2 := XQ102.out.f 2 rfl
        have q3 := XQ102.out.c 3 rfl
        have qf3 := XQ102.out.f 3 rfl
        have q4 := XQ102.out.c 4 rfl
        have qf4 := XQ102.out.f 4 rfl
        have qz := XQ102.out.size
        obtain ⟨w103, hV⟩ : ∃ V, V = (((((w102.setCell ⟨w4.heap.size, 0, none⟩ (.int .i64 K)).setCell ⟨w4.heap.size, 1, none⟩ (.bool false)).setCell ⟨w4.heap.size, 2, none⟩ (.slice bo3 B3.length bc3)).setCell ⟨w4.heap.size, 3, none⟩ (.slice so3 S3.length sc3)).setCell ⟨w4.heap.size, 4, none⟩ (.slice ro3 0 rc3)) := ⟨_, rfl⟩
        have hz103 : w102.heap.size ≤ w103.heap.size := by rw [hV]; simp [World.setCell]
        have hs103 : w.heap.size ≤ w103.heap.size := Nat.le_trans hs102 hz103
        have hB103 : Below w.heap.size w w103 := by rw [hV]; exact (((((hB102.setCell (p := ⟨w4.heap.size, 0, none⟩) (by dsimp only; omega) _).setCell (p := ⟨w4.heap.size, 1, none⟩) (by dsimp only; omega) _).setCell (p := ⟨w4.heap.size, 2, none⟩) (by dsimp only; omega) _).setCell (p := ⟨w4.heap.size, 3, none⟩) (by dsimp only; omega) _).setCell (p := ⟨w4.heap.size, 4, none⟩) (by dsimp only; omega) _)
        have XY103 := hid ((((((XY102.out.set 0 (.int .i64 K)).set 1 (.bool false)).set 2 (.slice bo3 B3.length bc3)).set 3 (.slice so3 S3.length sc3)).set 4 (.slice ro3 0 rc3)))
        rw [← hV] at XY103
        have XQ103 := hid ((((((XQ102.out.other (a := ⟨w4.heap.size, 0, none⟩) (by dsimp only; omega) (.int .i64 K)).other (a := ⟨w4.heap.size, 1, none⟩) (by dsimp only; omega) (.bool false)).other (a := ⟨w4.heap.size, 2, none⟩) (by dsimp only; omega) (.slice bo3 B3.length bc3)).other (a := ⟨w4.heap.size, 3, none⟩) (by dsimp only; omega) (.slice so3 S3.length sc3)).other (a := ⟨w4.heap.size, 4, none⟩) (by dsimp only; omega) (.slice ro3 0 rc3)))
        rw [← hV] at XQ103
        have M103 := hid ((((((M102.out.setOff (a := ⟨w4.heap.size, 0, none⟩) (by dsimp only; omega) (.int .i64 K)).setOff (a := ⟨w4.heap.size, 1, none⟩) (by dsimp only; omega) (.bool false)).setOff (a := ⟨w4.heap.size, 2, none⟩) (by dsimp only; omega) (.slice bo3 B3.length bc3)).setOff (a := ⟨w4.heap.size, 3, none⟩) (by dsimp only; omega) (.slice so3 S3.length sc3)).setOff (a := ⟨w4.heap.size, 4, none⟩) (by dsimp only; omega) (.slice ro3 0 rc3)))
        rw [← hV] at M103
        have G103 := hid ((((((G102.out.setOff (a := ⟨w4.heap.size, 0, none⟩) (by dsimp only; omega) (.int .i64 K)).setOff (a := ⟨w4.heap.size, 1, none⟩) (by dsimp only; omega) (.bool false)).setOff (a := ⟨w4.heap.size, 2, none⟩) (by dsimp only; omega) (.slice bo3 B3.length bc3)).setOff (a := ⟨w4.heap.size, 3, none⟩) (by dsimp only; omega) (.slice so3 S3.length sc3)).setOff (a := ⟨w4.heap.size, 4, none⟩) (by dsimp only; omega) (.slice ro3 0 rc3)))
        rw [← hV] at G103
        have H103 : Hid (w103 = (((((w102.setCell ⟨w4.heap.size, 0, none⟩ (.int .i64 K)).setCell ⟨w4.heap.size, 1, none⟩ (.bool false)).setCell ⟨w4.heap.size, 2, none⟩ (.slice bo3 B3.length bc3)).setCell ⟨w4.heap.size, 3, none⟩ (.slice so3 S3.length sc3)).setCell ⟨w4.heap.size, 4, none⟩ (.slice ro3 0 rc3))) := hV
        clear hV XY102 XQ102 M102 G102
        go_wp2
        clear y0 yf0 y1 yf1 y2 yf2 y3 yf3 y4 yf4 yz q0 qf0 q1 qf1 q2 qf2 q3 qf3 q4 qf4 qz
        rw [← H103.out]
        go_roundw
        case rel => exact ⟨j + 1, _, _, bo3, bc3, B3, so3, sc3, S3, ro3, rc3, by go_num, by omega, HN3, XY103, G103, by omega, M103, hid hB103, by omega⟩
        case measure => simp [intOf]; omega
      obtain rfl : j = wl.length := by omega
      have hl0 := Old.recv_last HGV.out.1 (by rw [HGV.out.2]; simp)
      have HL0 := hid hl0
      clear hl0
      have y0 := XY100.out.c 0 rfl
      have yf0 := XY100.out.f 0 rfl
      have y1 := XY100.out.c 1 rfl
      have yf1 := XY100.out.f 1 rfl
      have y2 := XY100.out.c 2 rfl
      have yf2 := XY100.out.f 2 rfl
      have y3 := XY100.out.c 3 rfl
      have yf3 := XY100.out.f 3 rfl
      have y4 := XY100.out.c 4 rfl
      have yf4 := XY100.out.f 4 rfl
      have yz := XY100.out.size
      go_wp2_with fail
      clear y0 yf0 y1 yf1 y2 yf2 y3 yf3 y4 yf4 yz
      refine (implRecv_as K false bo2 bc2 B2 so2 sc2 S2 ro2 rc2 [] 29 0 0 K false [] [] [(29, 0, 0)] [] 1 wr (by omega) (by omega) (by simp) F100.out.chan HL0.out).mono ?_
      rintro e w101 ⟨⟨bo3, bc3, so3, sc3, ro3, rc3, ko, kc, rfl, _, _⟩, hb101⟩
      have hB101 := hB100.trans (hb101.mono hB100.size)
      have hs101 : w.heap.size ≤ w101.heap.size := Nat.le_trans hs100 hb101.size
      have hz101 : wr.heap.size ≤ w101.heap.size := hb101.size
      have XY101 := hid (XY100.out.later hb101)
      have F101 := hid (F100.out.later hb101)
      clear XY100 F100
      clear hb101
      have y0 := XY101.out.c 0 rfl
      have yf0 := XY101.out.f 0 rfl
      have y1 := XY101.out.c 1 rfl
      have yf1 := XY101.out.f 1 rfl
      have y2 := XY101.out.c 2 rfl
      have yf2 := XY101.out.f 2 rfl
      have y3 := XY101.out.c 3 rfl
      have yf3 := XY101.out.f 3 rfl
      have y4 := XY101.out.c 4 rfl
      have yf4 := XY101.out.f 4 rfl
      have yz := XY101.out.size
      go_wp2
      go_ret
      exact ⟨rfl, Below.allocS hB101 _⟩
end
end Go.Proofs.Ytdfmmidokfcjfaa
