
/- Drawn boxes from a text of bytes. No conditions but those written. -/
import Derived.Test.YtnnlbnbamhkcaaaXj
namespace Go.Proofs.Ytnnlbnbamhkcaaa
open Go.RowKit

theorem BytesIn.later {n m : Nat} {W W' : World} {co : Option Addr} {bs : List Int} (h : BytesIn n W co bs) (hb : Below n W W') (hm : n ≤ m) : BytesIn m W' co bs := by
  rcases h with h | ⟨b, off, e, hbn, hc⟩
  · exact .inl h
  · exact .inr ⟨b, off, e, by omega, fun j hj => ⟨(World.cell?_of_block (a := ⟨b, off + j, none⟩) (hb.block b hbn)).trans (hc j hj).1, (hc j hj).2⟩⟩
theorem Cur.of {W : World} {p : Nat} {co : Option Addr} {cap : Nat} {bs : List Int} {k : Nat} {sd : Int} (h : Bx W p [.slice co bs.length cap, .int .i64 (k : Int), .int .u64 sd]) (hb : BytesIn p W co bs) : Cur W p co cap bs k sd := ⟨h.1, ⟨h.c 0 rfl, h.c 1 rfl, h.c 2 rfl⟩, ⟨h.f 0 rfl, h.f 1 rfl, h.f 2 rfl⟩, hb⟩
set_option maxRecDepth 10000 in
set_option maxHeartbeats 2000000 in
theorem drawGood_any (co : Option Addr) (cap : Nat) (bs : List Int) (w : World) (hl : bs.length ≤ 1048576) (hb : BytesIn w.heap.size w co bs) :
    Calls Try.prog 12 #[.slice co bs.length cap] w fun e w' => (∃ (kap : Int) (cl : Bool) (bo : Option Addr) (bc : Nat) (b : List Int) (so : Option Addr) (sc : Nat) (s : List (Int × Int × Int)) (ro : Option Addr) (rc : Nat) (r : List (Int × Int × Int)), e = .returned (.agg #[.int .i64 kap, .bool cl, .slice bo b.length bc, .slice so s.length sc, .slice ro r.length rc]) ∧ Med b s r ∧ RB w.heap.size w' bo bc b so sc s ro rc r) ∧ Below w.heap.size w w' := by
  obtain ⟨w1, hw1⟩ : ∃ w1, w1 = ((w.alloc (.cells #[.int .i64 0, .bool false, .slice none 0 0, .slice none 0 0, .slice none 0 0] 26)).alloc (.cells #[.slice co bs.length cap, .int .i64 0, .int .u64 0] 60)) := ⟨_, rfl⟩
  have hB1 : Below w.heap.size w w1 := by rw [hw1]; exact Below.allocS (Below.allocS (Below.refl _ _) _) _
  have XR1 : Hid (Bx w1 w.heap.size [.int .i64 0, .bool false, .slice none 0 0, .slice none 0 0, .slice none 0 0]) := by rw [hw1]; exact Bx.alloc (Bx.new [.int .i64 0, .bool false, .slice none 0 0, .slice none 0 0, .slice none 0 0] _ rfl) _
  have XC1 : Hid (Bx w1 (w.heap.size + 1) [.slice co bs.length cap, .int .i64 ((0 : Nat) : Int), .int .u64 0]) := by rw [hw1]; exact Bx.new [.slice co bs.length cap, .int .i64 0, .int .u64 0] _ (by simp)
  have hs1 : w.heap.size + 1 + 1 ≤ w1.heap.size := by rw [hw1]; simp
  have H1 := hid hw1
  clear hw1
  have hC := Cur.of XC1.out (hb.later (hB1) (by omega))
  go_enter Try.func12, Try.ntmps12
  go_wp2_with fail
  rw [← H1.out]
  refine (box_any (w.heap.size + 1) co cap bs 0 0 w1 hl (by omega) hC).mono ?_
  rintro e w2 ⟨⟨kap, cl, bo, bc, b, so, sc, s, ro, rc, r, rfl, hM, hD0⟩, k2, sd2, hk2, hC2, hg⟩
  have hB2 : Below w.heap.size w w2 := hB1.trans (hg.below (by omega) (by omega))
  have XR2 := hid (XR1.out.grew hg (by omega))
  have hD := hid hD0
  have hs2 := hg.size
  clear hD0 hC2 hg XR1 XC1 H1 hC
  have r0 := XR2.out.c 0 rfl
  have rf0 := XR2.out.f 0 rfl
  have rf1 := XR2.out.f 1 rfl
  have rf2 := XR2.out.f 2 rfl
  have rf3 := XR2.out.f 3 rfl
  have rf4 := XR2.out.f 4 rfl
  have r1 := XR2.out.c 1 rfl
  have r2 := XR2.out.c 2 rfl
  have r3 := XR2.out.c 3 rfl
  have r4 := XR2.out.c 4 rfl
  go_wp2
  refine bodyPost_ret (v := .agg #[.int .i64 kap, .bool cl, .slice bo b.length bc, .slice so s.length sc, .slice ro r.length rc]) (by simp [results, Try.results12, go_sem, r0, r1, r2, r3, r4]) rfl ?_
  exact ⟨⟨kap, cl, bo, bc, b, so, sc, s, ro, rc, r, rfl, hM, (((((hD.out.setOff (a := ⟨w.heap.size, 0, none⟩) (by dsimp only; omega) _).setOff (a := ⟨w.heap.size, 1, none⟩) (by dsimp only; omega) _).setOff (a := ⟨w.heap.size, 2, none⟩) (by dsimp only; omega) _).setOff (a := ⟨w.heap.size, 3, none⟩) (by dsimp only; omega) _).setOff (a := ⟨w.heap.size, 4, none⟩) (by dsimp only; omega) _).low (by omega)⟩, (((((hB2.setCell (p := ⟨w.heap.size, 0, none⟩) (by dsimp only; omega) _).setCell (p := ⟨w.heap.size, 1, none⟩) (by dsimp only; omega) _).setCell (p := ⟨w.heap.size, 2, none⟩) (by dsimp only; omega) _).setCell (p := ⟨w.heap.size, 3, none⟩) (by dsimp only; omega) _).setCell (p := ⟨w.heap.size, 4, none⟩) (by dsimp only; omega) _)⟩
set_option maxRecDepth 10000 in
set_option maxHeartbeats 2000000 in
theorem drawTake_any (co : Option Addr) (cap : Nat) (bs : List Int) (w : World) (hl : bs.length ≤ 1048576) (hb : BytesIn w.heap.size w co bs) :
    Calls Try.prog 4 #[.slice co bs.length cap] w fun e w' => (∃ (kap : Int) (cl : Bool) (bo : Option Addr) (bc : Nat) (b : List Int) (so : Option Addr) (sc : Nat) (s : List (Int × Int × Int)) (ro : Option Addr) (rc : Nat) (r : List (Int × Int × Int)), e = .returned (.agg #[.int .i64 kap, .bool cl, .slice bo b.length bc, .slice so s.length sc, .slice ro r.length rc]) ∧ Med b s r ∧ RB w.heap.size w' bo bc b so sc s ro rc r) ∧ Below w.heap.size w w' := by
  obtain ⟨w1, hw1⟩ : ∃ w1, w1 = (w.alloc (.cells #[.int .i64 0, .bool false, .slice none 0 0, .slice none 0 0, .slice none 0 0] 26)) := ⟨_, rfl⟩
  have hB1 : Below w.heap.size w w1 := by rw [hw1]; exact Below.allocS (Below.refl _ _) _
  have XR1 : Hid (Bx w1 w.heap.size [.int .i64 0, .bool false, .slice none 0 0, .slice none 0 0, .slice none 0 0]) := by rw [hw1]; exact Bx.new [.int .i64 0, .bool false, .slice none 0 0, .slice none 0 0, .slice none 0 0] _ rfl
  have hs1 : w.heap.size + 1 ≤ w1.heap.size := by rw [hw1]; simp
  have H1 := hid hw1
  clear hw1
  go_enter Try.func4, Try.ntmps4
  go_wp2_with fail
  rw [← H1.out]
  refine (drawGood_any co cap bs w1 hl (hb.later hB1 (by omega))).mono ?_
  rintro e w2 ⟨⟨kap, cl, bo, bc, b, so, sc, s, ro, rc, r, rfl, hM, hD0⟩, hb2⟩
  have hB2 : Below w.heap.size w w2 := hB1.trans (hb2.mono (by omega))
  have XR2 := hid (XR1.out.later hb2)
  have hD := hid hD0
  have hs2 := hb2.size
  clear hD0 hb2 XR1 H1
  have r0 := XR2.out.c 0 rfl
  have rf0 := XR2.out.f 0 rfl
  have rf1 := XR2.out.f 1 rfl
  have rf2 := XR2.out.f 2 rfl
  have rf3 := XR2.out.f 3 rfl
  have rf4 := XR2.out.f 4 rfl
  have r1 := XR2.out.c 1 rfl
  have r2 := XR2.out.c 2 rfl
  have r3 := XR2.out.c 3 rfl
  have r4 := XR2.out.c 4 rfl
  go_wp2
  refine bodyPost_ret (v := .agg #[.int .i64 kap, .bool cl, .slice bo b.length bc, .slice so s.length sc, .slice ro r.length rc]) (by simp [results, Try.results4, go_sem, r0, r1, r2, r3, r4]) rfl ?_
  exact ⟨⟨kap, cl, bo, bc, b, so, sc, s, ro, rc, r, rfl, hM, (((((hD.out.setOff (a := ⟨w.heap.size, 0, none⟩) (by dsimp only; omega) _).setOff (a := ⟨w.heap.size, 1, none⟩) (by dsimp only; omega) _).setOff (a := ⟨w.heap.size, 2, none⟩) (by dsimp only; omega) _).setOff (a := ⟨w.heap.size, 3, none⟩) (by dsimp only; omega) _).setOff (a := ⟨w.heap.size, 4, none⟩) (by dsimp only; omega) _).low (by omega)⟩, (((((hB2.setCell (p := ⟨w.heap.size, 0, none⟩) (by dsimp only; omega) _).setCell (p := ⟨w.heap.size, 1, none⟩) (by dsimp only; omega) _).setCell (p := ⟨w.heap.size, 2, none⟩) (by dsimp only; omega) _).setCell (p := ⟨w.heap.size, 3, none⟩) (by dsimp only; omega) _).setCell (p := ⟨w.heap.size, 4, none⟩) (by dsimp only; omega) _)⟩
set_option maxHeartbeats 2000000 in
theorem has_is (n₀ : Nat) (ao : Option Addr) (cap : Nat) (zs : List Int) (n : Int) (w : World) (b : Bool) (hl : zs.length ≤ 1048576) (hz : kI.In n₀ w ao zs) (hb : hasB zs n = b) :
    Calls Try.prog 8 #[.slice ao zs.length cap, .int .i64 n] w fun e w' => e = .returned (.bool b) ∧ w' = w := by
  have HB : Hid (hasB zs n = b) := hb
  clear hb
  go_enter Try.func8, Try.ntmps8
  go_wp2
  go_loop [9] (fun i => ∃ k : Nat, k ≤ zs.length ∧ i = .int .i64 k ∧ Hid (∀ j, j < k → el zs j ≠ n)) (fun i => zs.length - (intOf i).toNat)
  case atStart => exact ⟨0, Nat.zero_le _, rfl, fun j hj => by omega⟩
  case round =>
    obtain ⟨k, hk, rfl, hno⟩ := hrel
    by_cases hlt : k < zs.length
    · obtain ⟨b, off, rfl, hb, hc⟩ := ints_at hz hlt
      have hck := hc k hlt
      clear hc hz
      obtain ⟨x, hx⟩ : ∃ x, x = el zs k := ⟨_, rfl⟩
      rw [← hx] at hck
      have HX : Hid (x = el zs k) := hx
      clear hx
      by_cases he : x = n
      · have he' : (x == n) = true := by simpa using he
        have HY : Hid (hasB zs n = true) := hasB_yes hlt (by rw [← HX.out]; exact he)
        clear he
        go_wp2
        go_ret
        exact ⟨ret_bool (by rw [← HB.out, HY.out]), rfl⟩
      · have he' : (x == n) = false := by simpa using he
        go_wp2
        go_round
        case rel => exact ⟨k + 1, by omega, by go_num, fun j hj => by
          rcases Nat.lt_succ_iff_lt_or_eq.1 hj with h | rfl
          · exact hno.out j h
          · rw [← HX.out]; exact he⟩
        case measure => simp [intOf]; omega
    · obtain rfl : k = zs.length := by omega
      have HN : Hid (hasB zs n = false) := hasB_no hno.out
      go_wp2
      go_ret
      exact ⟨ret_bool (by rw [← HB.out, HN.out]), rfl⟩
end Go.Proofs.Ytnnlbnbamhkcaaa
