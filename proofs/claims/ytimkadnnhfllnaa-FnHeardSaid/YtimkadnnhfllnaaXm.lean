
/- DrawPublish from a text of bytes. No conditions but those written. -/
import Derived.Test.YtimkadnnhfllnaaXl
import Derived.Test.YtimkadnnhfllnaaXd
namespace Go.Proofs.Ytimkadnnhfllnaa
open Go.RowKit

theorem BytesIn.later {n m : Nat} {W W' : World} {co : Option Addr} {bs : List Int} (h : BytesIn n W co bs) (hb : Below n W W') (hm : n ≤ m) : BytesIn m W' co bs := by
  rcases h with h | ⟨b, off, e, hbn, hc⟩
  · exact .inl h
  · exact .inr ⟨b, off, e, by omega, fun j hj => ⟨(World.cell?_of_block (a := ⟨b, off + j, none⟩) (hb.block b hbn)).trans (hc j hj).1, (hc j hj).2⟩⟩
theorem Cur.of {W : World} {p : Nat} {co : Option Addr} {cap : Nat} {bs : List Int} {k : Nat} {sd : Int} (h : Bx W p [.slice co bs.length cap, .int .i64 (k : Int), .int .u64 sd]) (hb : BytesIn p W co bs) : Cur W p co cap bs k sd := ⟨h.1, ⟨h.c 0 rfl, h.c 1 rfl, h.c 2 rfl⟩, ⟨h.f 0 rfl, h.f 1 rfl, h.f 2 rfl⟩, hb⟩
set_option maxRecDepth 10000 in
set_option maxHeartbeats 16000000 in
theorem drawPub_any (co : Option Addr) (cap : Nat) (bs : List Int) (v : World) (hl : bs.length ≤ 9223372036854775807) (hb : BytesIn v.heap.size v co bs) :
    Calls Try.prog 4 #[.slice co bs.length cap] v fun e w' => (∃ (sd0 : Int) (o : Option Addr) (c : Nat) (us : List LSub) (x : Int), e = .returned (.tuple #[.agg #[.int .i64 sd0, .slice o us.length c], .int .i64 x]) ∧ (us.length ≤ 11 ∧ Fits us) ∧ TW v.heap.size w'.heap.size w' o c us) ∧ Below v.heap.size v w' := by
  obtain ⟨w, hw⟩ : ∃ w, w = (v.alloc (.cells #[.int .i64 0, .slice none 0 0] 25)).alloc (.cells #[.slice co bs.length cap, .int .i64 0, .int .u64 0] 44) := ⟨_, rfl⟩
  have hBv : Below v.heap.size v w := by rw [hw]; exact Below.allocS (Below.allocS (Below.refl _ _) _) _
  have XR0 : Hid (Bx w v.heap.size [.int .i64 0, .slice none 0 0]) := by rw [hw]; exact Bx.alloc (Bx.new [.int .i64 0, .slice none 0 0] _ rfl) _
  have XC : Bx w (v.heap.size + 1) [.slice co bs.length cap, .int .i64 ((0 : Nat) : Int), .int .u64 0] := by rw [hw]; exact Bx.new [.slice co bs.length cap, .int .i64 0, .int .u64 0] _ (by simp)
  have hvw : v.heap.size + 1 + 1 ≤ w.heap.size := by rw [hw]; simp
  have HW := hid hw
  clear hw
  have C0 := hid (Cur.of XC (hb.later hBv (by omega)))
  clear XC
  go_enter Try.func4, Try.ntmps4
  go_wp2_with fail
  rw [← HW.out]
  clear HW
  obtain ⟨p, hpe⟩ : ∃ p, p = v.heap.size + 1 := ⟨_, rfl⟩
  rw [← hpe] at C0
  rw [← hpe]
  have hp : p < w.heap.size := by omega
  have hvp : v.heap.size ≤ p := by omega
  have hvn : v.heap.size ≠ p := by omega
  clear hpe
  have hR0 := Grew.refl p w
  refine (topic_any p co cap bs 0 0 w hl (by omega) C0.out).mono ?_
  rintro e w1 ⟨⟨sd0, o, c, us, rfl, hS, hD0⟩, k1, sd1, hk1, hC1, hg1⟩
  have XR1 := hid (XR0.out.grew hg1 (by omega))
  have C1 := hid hC1
  have hR1 : Grew p w w1 := hR0.trans hg1
  have hz1 : w.heap.size ≤ w1.heap.size := hg1.size
  clear XR0 C0 hg1 hC1
  have D1 := hid hD0
  clear hD0
  have HS := hid hS
  clear hS
  have r0 := XR1.out.c 0 rfl
  have rf0 := XR1.out.f 0 rfl
  have r1 := XR1.out.c 1 rfl
  have rf1 := XR1.out.f 1 rfl
  have rz := XR1.out.size
  go_wp2_with fail
  clear r0 rf0 r1 rf1 rz
  refine (sized_any p co cap bs k1 sd1 w1 hl (by omega) C1.out).mono ?_
  rintro e w2 ⟨⟨x, rfl, _⟩, hD⟩
  obtain ⟨k2, sd2, hk2, hC2, hg2, hsz2⟩ := hD.grew
  have XR2 := hid (XR1.out.grew hg2 (by omega))
  have D2 := hid (D1.out.grew hg2 (by omega))
  have C2 := hid hC2
  have hR2 : Grew p w w2 := hR1.trans hg2
  have hz2 : w1.heap.size ≤ w2.heap.size := hg2.size
  clear XR1 D1 C1 hD hg2 hC2 hsz2
  have r0 := XR2.out.c 0 rfl
  have rf0 := XR2.out.f 0 rfl
  have r1 := XR2.out.c 1 rfl
  have rf1 := XR2.out.f 1 rfl
  have rz := XR2.out.size
  go_wp2
  refine bodyPost_ret (v := .tuple #[.agg #[.int .i64 sd0, .slice o us.length c], .int .i64 x]) (by simp [results, Try.results4, go_sem, r0, r1]) rfl ?_
  exact ⟨⟨sd0, o, c, us, x, rfl, HS.out, ((D2.out.setOff (a := ⟨v.heap.size, 0, none⟩) (by dsimp only; omega) _).setOff (a := ⟨v.heap.size, 1, none⟩) (by dsimp only; omega) _).wide (by omega) (by simp <;> omega)⟩, (((hBv.trans (hR2.below (by omega) (by omega))).setCell (p := ⟨v.heap.size, 0, none⟩) (by simp) _).setCell (p := ⟨v.heap.size, 1, none⟩) (by simp) _)⟩
end Go.Proofs.Ytimkadnnhfllnaa
