
/- Publish of the specification on a topic without hearers. No conditions but those written. -/
import Derived.Test.YtimkadnnhfllnaaTe
import Derived.Test.YtimkadnnhfllnaaTw
import Derived.Test.YtimkadnnhfllnaaTu
import Derived.Test.YtimkadnnhfllnaaYb
namespace Go.Proofs.Ytimkadnnhfllnaa
open Go.RowKit

set_option maxRecDepth 10000 in
set_option maxHeartbeats 4000000 in
theorem l9Own_nil (sd : Int) (ao : Option Addr) (cap : Nat) (w : World) :
    Calls Try.prog 18 #[.agg #[.int .i64 sd, .slice ao 0 cap]] w fun e w' => e = .returned (.agg #[.int .i64 sd, .slice none 0 0]) ∧ Below w.heap.size w w' := by
  have hB0 := below2 w (.cells #[.int .i64 sd, .slice ao 0 cap] 25) (.cells #[.int .i64 0, .slice none 0 0] 25)
  have R0 : Hid (Bx ((w.alloc (.cells #[.int .i64 sd, .slice ao 0 cap] 25)).alloc (.cells #[.int .i64 0, .slice none 0 0] 25)) (w.heap.size + 1) [.int .i64 0, .slice none 0 0]) := Bx.new [.int .i64 0, .slice none 0 0] _ (by simp)
  have A0 : Hid (Bx ((w.alloc (.cells #[.int .i64 sd, .slice ao 0 cap] 25)).alloc (.cells #[.int .i64 0, .slice none 0 0] 25)) w.heap.size [.int .i64 sd, .slice ao 0 cap]) := (Bx.new [.int .i64 sd, .slice ao 0 cap] _ rfl).alloc _
  go_enter Try.func18, Try.ntmps18
  go_wp2
  go_loopw [3, 9] (fun u i wr => u = .slice none 0 0 ∧ i = .int .i64 0 ∧ Hid (Bx wr (w.heap.size + 1) [.int .i64 0, .slice none 0 0]) ∧ Hid (Bx wr w.heap.size [.int .i64 sd, .slice ao 0 cap]) ∧ Below w.heap.size w wr) (fun _ _ _ => 0)
  case atStart => exact ⟨rfl, rfl, R0, A0, hB0⟩
  case round =>
    clear hB0 R0 A0
    obtain ⟨rfl, rfl, hR, hA, hB⟩ := hrel
    have r0 := hR.out.c 0 rfl
    have rf0 := hR.out.f 0 rfl
    have r1 := hR.out.c 1 rfl
    have rf1 := hR.out.f 1 rfl
    have a0 := hA.out.c 0 rfl
    have a1 := hA.out.c 1 rfl
    have af1 := hA.out.f 1 rfl
    have rz := hR.out.size
    go_wp2
    refine bodyPost_ret (v := .agg #[.int .i64 sd, .slice none 0 0]) (by simp [results, Try.results18, go_sem, r0, r1]) rfl ⟨rfl, ?_⟩
    exact ((hB.setCell (p := ⟨w.heap.size, 1, none⟩) (by dsimp only; omega) _).setCell (p := ⟨w.heap.size + 1, 0, none⟩) (by dsimp only; omega) _).setCell (p := ⟨w.heap.size + 1, 1, none⟩) (by dsimp only; omega) _
set_option maxRecDepth 10000 in
set_option maxHeartbeats 4000000 in
theorem specPubl_nil (sd : Int) (ao : Option Addr) (cap : Nat) (v : Int) (w : World) :
    Calls Try.prog 6 #[.agg #[.int .i64 sd, .slice ao 0 cap], .int .i64 v] w fun e w' => (∃ (vsd : Int) (vo : Option Addr) (vc : Nat) (go : Option Addr) (gn gc : Nat) (cv : Int), e = .returned (.tuple #[.agg #[.int .i64 vsd, .slice vo 0 vc], .slice go gn gc, .int .i64 cv]) ∧ (cv = 0 → vc = 0)) ∧ Below w.heap.size w w' := by
  have hd : DIn dSub w.heap.size w ao [] := ⟨.inl rfl, fun j hj => by simp at hj⟩
  obtain ⟨w0, hw0⟩ : ∃ w0, w0 = ((w.alloc (.cells #[.int .i64 sd, .slice ao 0 cap] 25)).alloc (.cells #[.int .i64 0, .slice none 0 0] 25)) := ⟨_, rfl⟩
  have hB0 : Below w.heap.size w w0 := by rw [hw0]; exact Below.allocS (Below.allocS (Below.refl _ _) _) _
  have XA0 : Hid (Bx w0 (w.heap.size) [.int .i64 sd, .slice ao 0 cap]) := by rw [hw0]; exact Bx.alloc (Bx.new [.int .i64 sd, .slice ao 0 cap] _ rfl) _
  have XR0 : Hid (Bx w0 (w.heap.size + 1) [.int .i64 0, .slice none 0 0]) := by rw [hw0]; exact Bx.new [.int .i64 0, .slice none 0 0] _ (by simp)
  have H0 : Hid (w0 = ((w.alloc (.cells #[.int .i64 sd, .slice ao 0 cap] 25)).alloc (.cells #[.int .i64 0, .slice none 0 0] 25))) := hw0
  have hs0 : w.heap.size + 1 + 1 ≤ w0.heap.size := by rw [hw0]; simp
  clear hw0
  have HD := hid hd
  clear hd
  obtain ⟨x, hx⟩ : ∃ x, topicB sd (([] : List LSub).map valSub) = x := ⟨_, rfl⟩
  have HX := hid hx
  clear hx
  go_enter Try.func6, Try.ntmps6
  go_wp2_with fail
  rw [← H0.out]
  refine (specGood_is sd ao cap [] w0 x (by simp) (fun a ha => by simp at ha) (HD.out.later dSub_ok hB0) HX.out).mono ?_
  rintro e w1 ⟨rfl, hb1⟩
  have hB1 := hB0.trans (hb1.mono hB0.size)
  have hs1 : w.heap.size + 1 + 1 ≤ w1.heap.size := Nat.le_trans hs0 hb1.size
  have hz1 : w0.heap.size ≤ w1.heap.size := hb1.size
  have XA1 := hid (XA0.out.later hb1)
  have XR1 := hid (XR0.out.later hb1)
  clear XA0 XR0
  clear hb1
  cases x
  · have a0 := XA1.out.c 0 rfl
    have af0 := XA1.out.f 0 rfl
    have a1 := XA1.out.c 1 rfl
    have af1 := XA1.out.f 1 rfl
    have az := XA1.out.size
    have r0 := XR1.out.c 0 rfl
    have rf0 := XR1.out.f 0 rfl
    have r1 := XR1.out.c 1 rfl
    have rf1 := XR1.out.f 1 rfl
    have rz := XR1.out.size
    go_wp2
    refine bodyPost_ret (v := .tuple #[.agg #[.int .i64 0, .slice none 0 0], .slice none 0 0, .int .i64 1]) (by simp [results, Try.results6, go_sem, r0, r1]) rfl ?_
    exact ⟨⟨0, none, 0, none, 0, 0, 1, rfl, fun h => by simp at h⟩, ((hB1.setCell (p := ⟨w.heap.size + 1, 0, none⟩) (by dsimp only; omega) _).setCell (p := ⟨w.heap.size + 1, 1, none⟩) (by dsimp only; omega) _)⟩
  by_cases hsq : sd = 1000000
  · have hsq1 : (sd == 1000000) = true := by simpa using hsq
    have a0 := XA1.out.c 0 rfl
    have af0 := XA1.out.f 0 rfl
    have a1 := XA1.out.c 1 rfl
    have af1 := XA1.out.f 1 rfl
    have az := XA1.out.size
    have r0 := XR1.out.c 0 rfl
    have rf0 := XR1.out.f 0 rfl
    have r1 := XR1.out.c 1 rfl
    have rf1 := XR1.out.f 1 rfl
    have rz := XR1.out.size
    go_wp2
    refine bodyPost_ret (v := .tuple #[.agg #[.int .i64 0, .slice none 0 0], .slice none 0 0, .int .i64 1]) (by simp [results, Try.results6, go_sem, r0, r1]) rfl ?_
    exact ⟨⟨0, none, 0, none, 0, 0, 1, rfl, fun h => by simp at h⟩, ((hB1.setCell (p := ⟨w.heap.size + 1, 0, none⟩) (by dsimp only; omega) _).setCell (p := ⟨w.heap.size + 1, 1, none⟩) (by dsimp only; omega) _)⟩
  have hsq1 : (sd == 1000000) = false := by simpa using hsq
  have a0 := XA1.out.c 0 rfl
  have af0 := XA1.out.f 0 rfl
  have a1 := XA1.out.c 1 rfl
  have af1 := XA1.out.f 1 rfl
  have az := XA1.out.size
  have r0 := XR1.out.c 0 rfl
  have rf0 := XR1.out.f 0 rfl
  have r1 := XR1.out.c 1 rfl
  have rf1 := XR1.out.f 1 rfl
  have rz := XR1.out.size
  go_wp2_with fail
  clear a0 af0 a1 af1 az r0 rf0 r1 rf1 rz
  refine (l9Own_nil sd ao cap w1).mono ?_
  rintro e w2 ⟨rfl, hb2⟩
  have hB2 := hB1.trans (hb2.mono hB1.size)
  have hs2 : w.heap.size + 1 + 1 ≤ w2.heap.size := Nat.le_trans hs1 hb2.size
  have hz2 : w1.heap.size ≤ w2.heap.size := hb2.size
  have XA2 := hid (XA1.out.later hb2)
  have XR2 := hid (XR1.out.later hb2)
  clear XA1 XR1
  clear hb2
  have a0 := XA2.out.c 0 rfl
  have af0 := XA2.out.f 0 rfl
  have a1 := XA2.out.c 1 rfl
  have af1 := XA2.out.f 1 rfl
  have az := XA2.out.size
  have r0 := XR2.out.c 0 rfl
  have rf0 := XR2.out.f 0 rfl
  have r1 := XR2.out.c 1 rfl
  have rf1 := XR2.out.f 1 rfl
  have rz := XR2.out.size
  obtain ⟨w3, hV⟩ : ∃ V, V = ((w2.setCell ⟨w.heap.size, 0, none⟩ (.int .i64 sd)).setCell ⟨w.heap.size, 1, none⟩ (.slice none 0 0)) := ⟨_, rfl⟩
  have hz3 : w2.heap.size ≤ w3.heap.size := by rw [hV]; simp [World.setCell]
  have hs3 : w.heap.size + 1 + 1 ≤ w3.heap.size := Nat.le_trans hs2 hz3
  have hB3 : Below w.heap.size w w3 := by rw [hV]; exact ((hB2.setCell (p := ⟨w.heap.size, 0, none⟩) (by dsimp only; omega) _).setCell (p := ⟨w.heap.size, 1, none⟩) (by dsimp only; omega) _)
  have XA3 := hid (((XA2.out.set 0 (.int .i64 sd)).set 1 (.slice none 0 0)))
  rw [← hV] at XA3
  have XR3 := hid (((XR2.out.other (a := ⟨w.heap.size, 0, none⟩) (by dsimp only; omega) (.int .i64 sd)).other (a := ⟨w.heap.size, 1, none⟩) (by dsimp only; omega) (.slice none 0 0)))
  rw [← hV] at XR3
  have H3 : Hid (w3 = ((w2.setCell ⟨w.heap.size, 0, none⟩ (.int .i64 sd)).setCell ⟨w.heap.size, 1, none⟩ (.slice none 0 0))) := hV
  clear hV XA2 XR2
  go_wp2_with fail
  clear a0 af0 a1 af1 az r0 rf0 r1 rf1 rz
  rw [← H3.out]
  refine (l9Waiting_any sd none 0 [] w3 (by simp) (.inl rfl)).mono ?_
  rintro e w4 ⟨⟨go, qc, rfl, _⟩, hb4⟩
  have hB4 := hB3.trans (hb4.mono hB3.size)
  have hs4 : w.heap.size + 1 + 1 ≤ w4.heap.size := Nat.le_trans hs3 hb4.size
  have hz4 : w3.heap.size ≤ w4.heap.size := hb4.size
  have XA4 := hid (XA3.out.later hb4)
  have XR4 := hid (XR3.out.later hb4)
  clear XA3 XR3
  clear hb4
  have hsd : 0 ≤ sd ∧ sd ≤ 1000000 := (topicB_good HX.out).1
  have a0 := XA4.out.c 0 rfl
  have af0 := XA4.out.f 0 rfl
  have a1 := XA4.out.c 1 rfl
  have af1 := XA4.out.f 1 rfl
  have az := XA4.out.size
  have r0 := XR4.out.c 0 rfl
  have rf0 := XR4.out.f 0 rfl
  have r1 := XR4.out.c 1 rfl
  have rf1 := XR4.out.f 1 rfl
  have rz := XR4.out.size
  go_upto_region 9 with fail
  clear a0 af0 a1 af1 az r0 rf0 r1 rf1 rz
  obtain ⟨w5, hV⟩ : ∃ V, V = (w4.setCell ⟨w.heap.size, 0, none⟩ (.int .i64 (sd + 1))) := ⟨_, rfl⟩
  have hz5 : w4.heap.size ≤ w5.heap.size := by rw [hV]; simp [World.setCell]
  have hs5 : w.heap.size + 1 + 1 ≤ w5.heap.size := Nat.le_trans hs4 hz5
  have hB5 : Below w.heap.size w w5 := by rw [hV]; exact (hB4.setCell (p := ⟨w.heap.size, 0, none⟩) (by dsimp only; omega) _)
  have XA5 := hid ((XA4.out.set 0 (.int .i64 (sd + 1))))
  rw [← hV] at XA5
  have XR5 := hid ((XR4.out.other (a := ⟨w.heap.size, 0, none⟩) (by dsimp only; omega) (.int .i64 (sd + 1))))
  rw [← hV] at XR5
  have H5 : Hid (w5 = (w4.setCell ⟨w.heap.size, 0, none⟩ (.int .i64 (sd + 1)))) := hV
  clear hV XA4 XR4
  rw [← H5.out]
  have a0 := XA5.out.c 0 rfl
  have af0 := XA5.out.f 0 rfl
  have a1 := XA5.out.c 1 rfl
  have af1 := XA5.out.f 1 rfl
  have az := XA5.out.size
  have r0 := XR5.out.c 0 rfl
  have rf0 := XR5.out.f 0 rfl
  have r1 := XR5.out.c 1 rfl
  have rf1 := XR5.out.f 1 rfl
  have rz := XR5.out.size
  go_wp2
  clear a0 af0 a1 af1 az r0 rf0 r1 rf1 rz
  go_loopw [8, 36] (fun u i wr => u = .slice none 0 0 ∧ i = .int .i64 0 ∧ wr = w5) (fun _ _ _ => 0)
  case atStart => exact ⟨rfl, rfl, rfl⟩
  case round =>
    obtain ⟨rfl, rfl, hwr⟩ := hrel
    rw [hwr]
    clear hwr wr
    have a0 := XA5.out.c 0 rfl
    have af0 := XA5.out.f 0 rfl
    have a1 := XA5.out.c 1 rfl
    have af1 := XA5.out.f 1 rfl
    have az := XA5.out.size
    have r0 := XR5.out.c 0 rfl
    have rf0 := XR5.out.f 0 rfl
    have r1 := XR5.out.c 1 rfl
    have rf1 := XR5.out.f 1 rfl
    have rz := XR5.out.size
    go_wp2
    refine bodyPost_ret (v := .tuple #[.agg #[.int .i64 (sd + 1), .slice none 0 0], .slice none 0 0, .int .i64 0]) (by simp [results, Try.results6, go_sem, r0, r1]) rfl ?_
    exact ⟨⟨sd + 1, none, 0, none, 0, 0, 0, rfl, fun _ => rfl⟩, ((hB5.setCell (p := ⟨w.heap.size + 1, 0, none⟩) (by dsimp only; omega) _).setCell (p := ⟨w.heap.size + 1, 1, none⟩) (by dsimp only; omega) _)⟩
end Go.Proofs.Ytimkadnnhfllnaa
