/- NewChan: both, and the walk of the law: it returns true. No conditions but those written. -/
import Derived.Test.YtblnlhdcdeiedaaDb
namespace Go.Proofs.Ytblnlhdcdeiedaa
open Go.RowKit

theorem markChan_nil (kap : Int) (cl : Bool) (w : World) :
    Calls Try.prog 19 #[.agg #[.int .i64 kap, .bool cl, .slice none 0 0, .slice none 0 0, .slice none 0 0], .int .i64 1] w fun e w' => e = .returned (.int .i64 1) ∧ Below w.heap.size w w' :=
  (markChan_any w.heap.size w.heap.size kap cl none 0 [] none 0 [] none 0 [] none 0 [] w (by simp) (by simp) (by simp) ⟨.inl rfl, .inl rfl, .inl rfl, .inl rfl⟩ (.inl rfl)).mono fun e w' ⟨he, _, _, hb⟩ => ⟨by simpa using he, hb.below (Nat.le_refl _)⟩
theorem chanIn_nil (n : Nat) (w : World) : ChanIn n w none [] none [] none [] := ⟨.inl rfl, .inl rfl, .inl rfl⟩
theorem heldChan_nil (kap : Int) (cl : Bool) (w : World) :
    Calls Try.prog 20 #[.agg #[.int .i64 kap, .bool cl, .slice none 0 0, .slice none 0 0, .slice none 0 0], .int .i64 1] w fun e w' => e = .returned (.int .i64 1) ∧ Below w.heap.size w w' :=
  (heldChan_any kap cl none 0 0 none 0 0 none 0 0 w (by simp) (by simp) (by simp) (chanIn_nil _ _)).mono fun e w' ⟨he, hb⟩ => ⟨by simpa using he, hb⟩
theorem eqChan_nil (kap : Int) (cl : Bool) (w : World) :
    Calls Try.prog 18 #[.agg #[.int .i64 kap, .bool cl, .slice none 0 0, .slice none 0 0, .slice none 0 0], .agg #[.int .i64 kap, .bool cl, .slice none 0 0, .slice none 0 0, .slice none 0 0]] w fun e w' => e = .returned (.bool true) ∧ Below w.heap.size w w' :=
  eqChan_same kap cl none 0 [] none 0 [] none 0 [] none 0 none 0 none 0 w (by simp) (by simp) (by simp) (chanIn_nil _ _) (chanIn_nil _ _)
theorem implGood_nil (kap : Int) (w : World) (x : Bool) (hx : (decide (0 ≤ kap) && decide (kap ≤ 10)) = x) :
    Calls Try.prog 24 #[.agg #[.int .i64 kap, .bool false, .slice none 0 0, .slice none 0 0, .slice none 0 0]] w fun e w' => e = .returned (.bool x) ∧ Below w.heap.size w w' := by
  refine implGood_is kap false none 0 [] none 0 [] none 0 [] w x (by simp) (by simp) (by simp) (.inl rfl) (.inl rfl) ?_
  rw [← hx]
  by_cases h : 0 ≤ kap
  · simp [goodC, rowB, h]
  · simp [goodC, rowB, h]

/-- NewChan. -/
def newK (z : Int) : Int := if 0 ≤ z ∧ z ≤ 10 then z else 0
def newB (z : Int) : Bool := decide (0 ≤ z) && decide (z ≤ 10)

set_option maxHeartbeats 1000000 in
theorem specNew_any (z : Int) (w : World) :
    Calls Try.prog 16 #[.int .i64 z] w fun e w' => e = .returned (.tuple #[.agg #[.int .i64 (newK z), .bool false, .slice none 0 0, .slice none 0 0, .slice none 0 0], .bool (newB z)]) ∧ Below w.heap.size w w' := by
  cases h : (decide (0 ≤ z) && decide (z ≤ 10))
  · have HV : Hid (newK z = 0 ∧ newB z = false) := ⟨by unfold newK; rw [if_neg]; intro hh; simp [hh] at h, h⟩
    have H : Hid ((decide (0 ≤ z) && decide (z ≤ 10)) = false) := h
    clear h
    go_enter Try.func16, Try.ntmps16
    go_wp2_with fail
    refine (l1In_is z 0 10 _ false H.out).mono ?_
    rintro e w1 ⟨rfl, rfl⟩
    go_wp2
    refine bodyPost_ret (v := .tuple #[.agg #[.int .i64 0, .bool false, .slice none 0 0, .slice none 0 0, .slice none 0 0], .bool false]) (by simp [results, Try.results16, go_sem]) rfl ⟨by rw [HV.out.1, HV.out.2], ?_⟩
    repeat (first | assumption | exact Below.refl _ _ | exact below1 _ _ | refine Below.setCell ?_ (by simp) _)
  · have HV : Hid (newK z = z ∧ newB z = true) := ⟨by unfold newK; rw [if_pos]; simpa using h, h⟩
    have H : Hid ((decide (0 ≤ z) && decide (z ≤ 10)) = true) := h
    clear h
    go_enter Try.func16, Try.ntmps16
    go_wp2_with fail
    refine (l1In_is z 0 10 _ true H.out).mono ?_
    rintro e w1 ⟨rfl, rfl⟩
    go_wp2
    refine bodyPost_ret (v := .tuple #[.agg #[.int .i64 z, .bool false, .slice none 0 0, .slice none 0 0, .slice none 0 0], .bool true]) (by simp [results, Try.results16, go_sem]) rfl ⟨by rw [HV.out.1, HV.out.2], ?_⟩
    repeat (first | assumption | exact Below.refl _ _ | exact below1 _ _ | refine Below.setCell ?_ (by simp) _)

set_option maxHeartbeats 1000000 in
theorem implNew_any (z : Int) (w : World) :
    Calls Try.prog 17 #[.int .i64 z] w fun e w' => e = .returned (.tuple #[.agg #[.int .i64 (newK z), .bool false, .slice none 0 0, .slice none 0 0, .slice none 0 0], .bool (newB z)]) ∧ Below w.heap.size w w' := by
  have R0 := BoxF5.new w (.int .i64 0) (.bool false) (.slice none 0 0) (.slice none 0 0) (.slice none 0 0) 26
  have R0' := R0.later (below1 _ (.cells #[.int .i64 z, .bool false, .slice none 0 0, .slice none 0 0, .slice none 0 0] 26))
  have M0 := BoxF5.new (w.alloc (.cells #[.int .i64 0, .bool false, .slice none 0 0, .slice none 0 0, .slice none 0 0] 26)) (.int .i64 z) (.bool false) (.slice none 0 0) (.slice none 0 0) (.slice none 0 0) 26
  rw [World.size_alloc] at M0
  have hB0 := below2 w (.cells #[.int .i64 0, .bool false, .slice none 0 0, .slice none 0 0, .slice none 0 0] 26) (.cells #[.int .i64 z, .bool false, .slice none 0 0, .slice none 0 0, .slice none 0 0] 26)
  clear R0
  cases h : (decide (0 ≤ z) && decide (z ≤ 10))
  · have HV : Hid (newK z = 0 ∧ newB z = false) := ⟨by unfold newK; rw [if_neg]; intro hh; simp [hh] at h, h⟩
    have H : Hid ((decide (0 ≤ z) && decide (z ≤ 10)) = false) := h
    clear h
    go_enter Try.func17, Try.ntmps17
    go_wp2_with fail
    refine (implGood_nil z _ false H.out).mono ?_
    rintro e w1 ⟨rfl, hb1⟩
    have hB1 := hB0.trans (hb1.mono (by simp; omega))
    obtain ⟨⟨_, r0, r1, r2, r3, r4⟩, f0, f1, f2, f3, f4⟩ := R0'.later hb1
    clear hb1 R0' M0
    go_wp2
    refine bodyPost_ret (v := .tuple #[.agg #[.int .i64 0, .bool false, .slice none 0 0, .slice none 0 0, .slice none 0 0], .bool false]) (by simp [results, Try.results17, go_sem, r0, r1, r2, r3, r4]) rfl ⟨by rw [HV.out.1, HV.out.2], ?_⟩
    repeat (first | assumption | exact Below.refl _ _ | refine Below.setCell ?_ (by simp) _)
  · have HV : Hid (newK z = z ∧ newB z = true) := ⟨by unfold newK; rw [if_pos]; simpa using h, h⟩
    have H : Hid ((decide (0 ≤ z) && decide (z ≤ 10)) = true) := h
    clear h
    go_enter Try.func17, Try.ntmps17
    go_wp2_with fail
    refine (implGood_nil z _ true H.out).mono ?_
    rintro e w1 ⟨rfl, hb1⟩
    have hB1 := hB0.trans (hb1.mono (by simp; omega))
    obtain ⟨⟨_, r0, r1, r2, r3, r4⟩, f0, f1, f2, f3, f4⟩ := R0'.later hb1
    obtain ⟨⟨_, m0, m1, m2, m3, m4⟩, _⟩ := M0.later hb1
    clear hb1 R0' M0
    go_wp2
    refine bodyPost_ret (v := .tuple #[.agg #[.int .i64 z, .bool false, .slice none 0 0, .slice none 0 0, .slice none 0 0], .bool true]) (by simp [results, Try.results17, go_sem, r0, r1, r2, r3, r4]) rfl ⟨by rw [HV.out.1, HV.out.2], ?_⟩
    repeat (first | assumption | exact Below.refl _ _ | refine Below.setCell ?_ (by simp) _)

set_option maxRecDepth 10000 in
set_option maxHeartbeats 4000000 in
theorem lawNew_any (z : Int) (w : World) :
    Calls Try.prog 4 #[.int .i64 z] w fun e w' => e = .returned (.bool true) ∧ Below w.heap.size w w' := by
  obtain ⟨k, hk⟩ : ∃ k, newK z = k := ⟨_, rfl⟩
  obtain ⟨x, hx⟩ : ∃ x, newB z = x := ⟨_, rfl⟩
  have HV : Hid (newK z = k ∧ newB z = x) := ⟨hk, hx⟩
  have hne : (x != x) = false := by simp
  clear hk hx
  go_enter Try.func4, Try.ntmps4
  go_wp2_with fail
  refine (specNew_any z _).mono ?_
  rintro e w1 ⟨rfl, hB1⟩
  rw [HV.out.1, HV.out.2]
  have P1 := Box5.new w1 (.int .i64 k) (.bool false) (.slice none 0 0) (.slice none 0 0) (.slice none 0 0) 26
  have hB1' := hB1.alloc hB1.size (.cells #[.int .i64 k, .bool false, .slice none 0 0, .slice none 0 0, .slice none 0 0] 26)
  clear hB1
  go_wp2_with fail
  refine (implNew_any z _).mono ?_
  rintro e w2 ⟨rfl, hb2⟩
  rw [HV.out.1, HV.out.2]
  have hB2 := hB1'.trans (hb2.mono hB1'.size)
  have P2 := (P1.later hb2).later (below1 w2 (.cells #[.int .i64 k, .bool false, .slice none 0 0, .slice none 0 0, .slice none 0 0] 26))
  have G2 := Box5.new w2 (.int .i64 k) (.bool false) (.slice none 0 0) (.slice none 0 0) (.slice none 0 0) 26
  have hB2' := hB2.alloc hB2.size (.cells #[.int .i64 k, .bool false, .slice none 0 0, .slice none 0 0, .slice none 0 0] 26)
  obtain ⟨_, q0, q1, q2, q3, q4⟩ := P1.later hb2
  have hsz : w1.heap.size < w2.heap.size := (P1.later hb2).1
  clear hb2 P1 hB2
  go_wp2_with fail
  refine (eqChan_nil k false _).mono ?_
  rintro e w3 ⟨rfl, hb3⟩
  have hB3 := hB2'.trans (hb3.mono hB2'.size)
  have P3 := P2.later hb3
  have G3 := G2.later hb3
  clear hb3 P2 G2 hB2' q0 q1 q2 q3 q4 hsz
  obtain ⟨_, p0, p1, p2, p3, p4⟩ := id P3
  obtain ⟨_, g0, g1, g2, g3, g4⟩ := id G3
  go_wp2_with fail
  refine (markChan_nil k false _).mono ?_
  rintro e w4 ⟨rfl, hb4⟩
  have hB4 := hB3.trans (hb4.mono hB3.size)
  have P4 := P3.later hb4
  have G4 := G3.later hb4
  clear hb4 P3 G3 p0 p1 p2 p3 p4 g0 g1 g2 g3 g4
  obtain ⟨_, p0, p1, p2, p3, p4⟩ := id P4
  obtain ⟨_, g0, g1, g2, g3, g4⟩ := id G4
  go_wp2_with fail
  refine (heldChan_nil k false _).mono ?_
  rintro e w5 ⟨rfl, hb5⟩
  have hB5 := hB4.trans (hb5.mono hB4.size)
  have P5 := P4.later hb5
  have G5 := G4.later hb5
  clear hb5 P4 G4 p0 p1 p2 p3 p4 g0 g1 g2 g3 g4
  go_wp2_with fail
  refine (implNew_any z _).mono ?_
  rintro e w6 ⟨rfl, hb6⟩
  rw [HV.out.1, HV.out.2]
  have hB6 := hB5.trans (hb6.mono hB5.size)
  have P6 := P5.later hb6
  have G6 := G5.later hb6
  have hB6' := hB6.alloc hB6.size (.cells #[.int .i64 k, .bool false, .slice none 0 0, .slice none 0 0, .slice none 0 0] 26)
  have G6' := G6.later (below1 w6 (.cells #[.int .i64 k, .bool false, .slice none 0 0, .slice none 0 0, .slice none 0 0] 26))
  clear hb6 P5 G5
  obtain ⟨_, p0, p1, p2, p3, p4⟩ := id P6
  go_wp2_with fail
  refine (eqChan_nil k false _).mono ?_
  rintro e w7 ⟨rfl, hb7⟩
  have hB7 := hB6'.trans (hb7.mono hB6'.size)
  obtain ⟨_, g0, g1, g2, g3, g4⟩ := G6'.later hb7
  clear hb7 p0 p1 p2 p3 p4 P6 G6 G6'
  go_wp2_with fail
  refine (heldChan_nil k false _).mono ?_
  rintro e w8 ⟨rfl, hb8⟩
  have hB8 := hB7.trans (hb8.mono hB7.size)
  clear hb8
  go_wp2
  go_ret
  exact ⟨rfl, hB8⟩
end Go.Proofs.Ytblnlhdcdeiedaa
