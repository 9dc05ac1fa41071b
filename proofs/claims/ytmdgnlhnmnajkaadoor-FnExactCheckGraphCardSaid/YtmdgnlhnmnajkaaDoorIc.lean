
/- The program's CheckGraph. No conditions but those written. -/
import Derived.Test.YtmdgnlhnmnajkaaDoorIs
import Derived.Test.YtmdgnlhnmnajkaaDoorFp
namespace Go.Proofs.YtmdgnlhnmnajkaaDoor
open Go.RowKit

/-- The errors lie in memory of their own, each in another place. -/
structure ErrB (W : World) (ea : Nat → Addr) : Prop where
  blk : ∀ i, i < 7 → ∃ c t, W.heap[(ea i).block]? = some (.cells c t (0, 0))
  ne : ∀ i j, i < 7 → j < 7 → i ≠ j → ea i ≠ ea j
theorem ErrB.later {W W' : World} {ea : Nat → Addr} (h : ErrB W ea) (hb : Below W.heap.size W W') : ErrB W' ea :=
  ⟨fun i hi => by
    obtain ⟨c, t, e⟩ := h.blk i hi
    exact ⟨c, t, (hb.block _ (Array.getElem?_eq_some_iff.1 e).1).trans e⟩, h.ne⟩
/-- The fault of a code. -/
def faultC (ea : Nat → Addr) (c : Nat) (n : Int) : Value := if c = 1 then errV (ea 0) else if c = 7 then errV (ea 6) else .iface 73 (.agg #[.int .i64 n, errV (ea (c - 1))])
theorem isF {W : World} {ea : Nat → Addr} (h : ErrB W ea) {c k : Nat} {n : Int} (h1 : 1 ≤ c) (h7 : c ≤ 7) (hk : k < 6) (b : Bool) (hb : decide (c = k + 1) = b) :
    Calls Tryd.prog 52 #[faultC ea c n, errV (ea k)] W fun e w' => e = .returned (.bool b) ∧ Below W.heap.size W w' := by
  obtain ⟨ck, tk, ek⟩ := h.blk k (by omega)
  subst hb
  unfold faultC
  by_cases c1 : c = 1
  · rw [if_pos c1]
    by_cases k0 : k = 0
    · subst k0; rw [decide_eq_true (by omega)]; exact is_same _ _
    · obtain ⟨c0, t0, e0⟩ := h.blk 0 (by omega)
      rw [decide_eq_false (by omega)]
      exact is_other _ _ _ _ _ _ _ (h.ne 0 k (by omega) (by omega) (by omega)) e0 ek
  · rw [if_neg c1]
    by_cases c7 : c = 7
    · rw [if_pos c7, decide_eq_false (by omega)]
      obtain ⟨c6, t6, e6⟩ := h.blk 6 (by omega)
      exact is_other _ _ _ _ _ _ _ (h.ne 6 k (by omega) (by omega) (by omega)) e6 ek
    · rw [if_neg c7]
      by_cases ce : c = k + 1
      · rw [decide_eq_true ce, ce, Nat.add_sub_cancel]
        exact is_at_same n _ _
      · rw [decide_eq_false ce]
        obtain ⟨cc, tc, ec⟩ := h.blk (c - 1) (by omega)
        exact is_at_other n _ _ _ _ _ _ _ (h.ne (c - 1) k (by omega) (by omega) (by omega)) ec ek
set_option maxHeartbeats 1000000 in
theorem graphCode_nil (w : World) : Calls Tryd.prog 32 #[.nilIface] w fun e w' => e = .returned (.int .i64 0) ∧ Below w.heap.size w w' := by
  go_enter Tryd.func32, Tryd.ntmps32
  go_wp2
  go_ret
  exact ⟨rfl, Below.refl _ _⟩
set_option maxHeartbeats 2000000 in
theorem graphCode_1 (ea : Nat → Addr) (n : Int) (w : World) (hE : Errs w ea) (hB : ErrB w ea) : Calls Tryd.prog 32 #[faultC ea 1 n] w fun e w' => e = .returned (.int .i64 1) ∧ Below w.heap.size w w' := by
  obtain ⟨ty, v, hv⟩ : ∃ ty v, faultC ea 1 n = .iface ty v := ⟨_, _, rfl⟩
  have HB := hid hB
  have HE := hid hE
  have hB0 : Below w.heap.size w w := Below.refl _ _
  have i0 := fun W (hW : ErrB W ea) => isF (n := n) hW (show 1 ≤ 1 by decide) (show 1 ≤ 7 by decide) (show 0 < 6 by decide) true rfl
  rw [hv] at i0 ⊢
  clear hv hE hB
  have e0 := HE.out.cell 0 (by omega)
  simp only [errV] at e0
  go_enter Tryd.func32, Tryd.ntmps32
  go_wp2_with fail
  refine (i0 _ (HB.out.later hB0)).mono ?_
  rintro e w1 ⟨rfl, hb1⟩
  have hB1 : Below w.heap.size w w1 := hB0.trans (hb1.mono hB0.size)
  have e1 := (HE.out.later hB1).cell 1 (by omega)
  simp only [errV] at e1
  clear hb1 e0
  go_wp2
  go_ret
  exact ⟨rfl, hB1⟩
set_option maxHeartbeats 2000000 in
theorem graphCode_2 (ea : Nat → Addr) (n : Int) (w : World) (hE : Errs w ea) (hB : ErrB w ea) : Calls Tryd.prog 32 #[faultC ea 2 n] w fun e w' => e = .returned (.int .i64 2) ∧ Below w.heap.size w w' := by
  obtain ⟨ty, v, hv⟩ : ∃ ty v, faultC ea 2 n = .iface ty v := ⟨_, _, rfl⟩
  have HB := hid hB
  have HE := hid hE
  have hB0 : Below w.heap.size w w := Below.refl _ _
  have i0 := fun W (hW : ErrB W ea) => isF (n := n) hW (show 1 ≤ 2 by decide) (show 2 ≤ 7 by decide) (show 0 < 6 by decide) false rfl
  have i1 := fun W (hW : ErrB W ea) => isF (n := n) hW (show 1 ≤ 2 by decide) (show 2 ≤ 7 by decide) (show 1 < 6 by decide) true rfl
  rw [hv] at i0 i1 ⊢
  clear hv hE hB
  have e0 := HE.out.cell 0 (by omega)
  simp only [errV] at e0
  go_enter Tryd.func32, Tryd.ntmps32
  go_wp2_with fail
  refine (i0 _ (HB.out.later hB0)).mono ?_
  rintro e w1 ⟨rfl, hb1⟩
  have hB1 : Below w.heap.size w w1 := hB0.trans (hb1.mono hB0.size)
  have e1 := (HE.out.later hB1).cell 1 (by omega)
  simp only [errV] at e1
  clear hb1 e0
  go_wp2_with fail
  refine (i1 _ (HB.out.later hB1)).mono ?_
  rintro e w2 ⟨rfl, hb2⟩
  have hB2 : Below w.heap.size w w2 := hB1.trans (hb2.mono hB1.size)
  have e2 := (HE.out.later hB2).cell 2 (by omega)
  simp only [errV] at e2
  clear hb2 e1
  go_wp2
  go_ret
  exact ⟨rfl, hB2⟩
set_option maxHeartbeats 2000000 in
theorem graphCode_3 (ea : Nat → Addr) (n : Int) (w : World) (hE : Errs w ea) (hB : ErrB w ea) : Calls Tryd.prog 32 #[faultC ea 3 n] w fun e w' => e = .returned (.int .i64 3) ∧ Below w.heap.size w w' := by
  obtain ⟨ty, v, hv⟩ : ∃ ty v, faultC ea 3 n = .iface ty v := ⟨_, _, rfl⟩
  have HB := hid hB
  have HE := hid hE
  have hB0 : Below w.heap.size w w := Below.refl _ _
  have i0 := fun W (hW : ErrB W ea) => isF (n := n) hW (show 1 ≤ 3 by decide) (show 3 ≤ 7 by decide) (show 0 < 6 by decide) false rfl
  have i1 := fun W (hW : ErrB W ea) => isF (n := n) hW (show 1 ≤ 3 by decide) (show 3 ≤ 7 by decide) (show 1 < 6 by decide) false rfl
  have i2 := fun W (hW : ErrB W ea) => isF (n := n) hW (show 1 ≤ 3 by decide) (show 3 ≤ 7 by decide) (show 2 < 6 by decide) true rfl
  rw [hv] at i0 i1 i2 ⊢
  clear hv hE hB
  have e0 := HE.out.cell 0 (by omega)
  simp only [errV] at e0
  go_enter Tryd.func32, Tryd.ntmps32
  go_wp2_with fail
  refine (i0 _ (HB.out.later hB0)).mono ?_
  rintro e w1 ⟨rfl, hb1⟩
  have hB1 : Below w.heap.size w w1 := hB0.trans (hb1.mono hB0.size)
  have e1 := (HE.out.later hB1).cell 1 (by omega)
  simp only [errV] at e1
  clear hb1 e0
  go_wp2_with fail
  refine (i1 _ (HB.out.later hB1)).mono ?_
  rintro e w2 ⟨rfl, hb2⟩
  have hB2 : Below w.heap.size w w2 := hB1.trans (hb2.mono hB1.size)
  have e2 := (HE.out.later hB2).cell 2 (by omega)
  simp only [errV] at e2
  clear hb2 e1
  go_wp2_with fail
  refine (i2 _ (HB.out.later hB2)).mono ?_
  rintro e w3 ⟨rfl, hb3⟩
  have hB3 : Below w.heap.size w w3 := hB2.trans (hb3.mono hB2.size)
  have e3 := (HE.out.later hB3).cell 3 (by omega)
  simp only [errV] at e3
  clear hb3 e2
  go_wp2
  go_ret
  exact ⟨rfl, hB3⟩
set_option maxHeartbeats 2000000 in
theorem graphCode_4 (ea : Nat → Addr) (n : Int) (w : World) (hE : Errs w ea) (hB : ErrB w ea) : Calls Tryd.prog 32 #[faultC ea 4 n] w fun e w' => e = .returned (.int .i64 4) ∧ Below w.heap.size w w' := by
  obtain ⟨ty, v, hv⟩ : ∃ ty v, faultC ea 4 n = .iface ty v := ⟨_, _, rfl⟩
  have HB := hid hB
  have HE := hid hE
  have hB0 : Below w.heap.size w w := Below.refl _ _
  have i0 := fun W (hW : ErrB W ea) => isF (n := n) hW (show 1 ≤ 4 by decide) (show 4 ≤ 7 by decide) (show 0 < 6 by decide) false rfl
  have i1 := fun W (hW : ErrB W ea) => isF (n := n) hW (show 1 ≤ 4 by decide) (show 4 ≤ 7 by decide) (show 1 < 6 by decide) false rfl
  have i2 := fun W (hW : ErrB W ea) => isF (n := n) hW (show 1 ≤ 4 by decide) (show 4 ≤ 7 by decide) (show 2 < 6 by decide) false rfl
  have i3 := fun W (hW : ErrB W ea) => isF (n := n) hW (show 1 ≤ 4 by decide) (show 4 ≤ 7 by decide) (show 3 < 6 by decide) true rfl
  rw [hv] at i0 i1 i2 i3 ⊢
  clear hv hE hB
  have e0 := HE.out.cell 0 (by omega)
  simp only [errV] at e0
  go_enter Tryd.func32, Tryd.ntmps32
  go_wp2_with fail
  refine (i0 _ (HB.out.later hB0)).mono ?_
  rintro e w1 ⟨rfl, hb1⟩
  have hB1 : Below w.heap.size w w1 := hB0.trans (hb1.mono hB0.size)
  have e1 := (HE.out.later hB1).cell 1 (by omega)
  simp only [errV] at e1
  clear hb1 e0
  go_wp2_with fail
  refine (i1 _ (HB.out.later hB1)).mono ?_
  rintro e w2 ⟨rfl, hb2⟩
  have hB2 : Below w.heap.size w w2 := hB1.trans (hb2.mono hB1.size)
  have e2 := (HE.out.later hB2).cell 2 (by omega)
  simp only [errV] at e2
  clear hb2 e1
  go_wp2_with fail
  refine (i2 _ (HB.out.later hB2)).mono ?_
  rintro e w3 ⟨rfl, hb3⟩
  have hB3 : Below w.heap.size w w3 := hB2.trans (hb3.mono hB2.size)
  have e3 := (HE.out.later hB3).cell 3 (by omega)
  simp only [errV] at e3
  clear hb3 e2
  go_wp2_with fail
  refine (i3 _ (HB.out.later hB3)).mono ?_
  rintro e w4 ⟨rfl, hb4⟩
  have hB4 : Below w.heap.size w w4 := hB3.trans (hb4.mono hB3.size)
  have e4 := (HE.out.later hB4).cell 4 (by omega)
  simp only [errV] at e4
  clear hb4 e3
  go_wp2
  go_ret
  exact ⟨rfl, hB4⟩
set_option maxHeartbeats 2000000 in
theorem graphCode_5 (ea : Nat → Addr) (n : Int) (w : World) (hE : Errs w ea) (hB : ErrB w ea) : Calls Tryd.prog 32 #[faultC ea 5 n] w fun e w' => e = .returned (.int .i64 5) ∧ Below w.heap.size w w' := by
  obtain ⟨ty, v, hv⟩ : ∃ ty v, faultC ea 5 n = .iface ty v := ⟨_, _, rfl⟩
  have HB := hid hB
  have HE := hid hE
  have hB0 : Below w.heap.size w w := Below.refl _ _
  have i0 := fun W (hW : ErrB W ea) => isF (n := n) hW (show 1 ≤ 5 by decide) (show 5 ≤ 7 by decide) (show 0 < 6 by decide) false rfl
  have i1 := fun W (hW : ErrB W ea) => isF (n := n) hW (show 1 ≤ 5 by decide) (show 5 ≤ 7 by decide) (show 1 < 6 by decide) false rfl
  have i2 := fun W (hW : ErrB W ea) => isF (n := n) hW (show 1 ≤ 5 by decide) (show 5 ≤ 7 by decide) (show 2 < 6 by decide) false rfl
  have i3 := fun W (hW : ErrB W ea) => isF (n := n) hW (show 1 ≤ 5 by decide) (show 5 ≤ 7 by decide) (show 3 < 6 by decide) false rfl
  have i4 := fun W (hW : ErrB W ea) => isF (n := n) hW (show 1 ≤ 5 by decide) (show 5 ≤ 7 by decide) (show 4 < 6 by decide) true rfl
  rw [hv] at i0 i1 i2 i3 i4 ⊢
  clear hv hE hB
  have e0 := HE.out.cell 0 (by omega)
  simp only [errV] at e0
  go_enter Tryd.func32, Tryd.ntmps32
  go_wp2_with fail
  refine (i0 _ (HB.out.later hB0)).mono ?_
  rintro e w1 ⟨rfl, hb1⟩
  have hB1 : Below w.heap.size w w1 := hB0.trans (hb1.mono hB0.size)
  have e1 := (HE.out.later hB1).cell 1 (by omega)
  simp only [errV] at e1
  clear hb1 e0
  go_wp2_with fail
  refine (i1 _ (HB.out.later hB1)).mono ?_
  rintro e w2 ⟨rfl, hb2⟩
  have hB2 : Below w.heap.size w w2 := hB1.trans (hb2.mono hB1.size)
  have e2 := (HE.out.later hB2).cell 2 (by omega)
  simp only [errV] at e2
  clear hb2 e1
  go_wp2_with fail
  refine (i2 _ (HB.out.later hB2)).mono ?_
  rintro e w3 ⟨rfl, hb3⟩
  have hB3 : Below w.heap.size w w3 := hB2.trans (hb3.mono hB2.size)
  have e3 := (HE.out.later hB3).cell 3 (by omega)
  simp only [errV] at e3
  clear hb3 e2
  go_wp2_with fail
  refine (i3 _ (HB.out.later hB3)).mono ?_
  rintro e w4 ⟨rfl, hb4⟩
  have hB4 : Below w.heap.size w w4 := hB3.trans (hb4.mono hB3.size)
  have e4 := (HE.out.later hB4).cell 4 (by omega)
  simp only [errV] at e4
  clear hb4 e3
  go_wp2_with fail
  refine (i4 _ (HB.out.later hB4)).mono ?_
  rintro e w5 ⟨rfl, hb5⟩
  have hB5 : Below w.heap.size w w5 := hB4.trans (hb5.mono hB4.size)
  have e5 := (HE.out.later hB5).cell 5 (by omega)
  simp only [errV] at e5
  clear hb5 e4
  go_wp2
  go_ret
  exact ⟨rfl, hB5⟩
set_option maxHeartbeats 2000000 in
theorem graphCode_6 (ea : Nat → Addr) (n : Int) (w : World) (hE : Errs w ea) (hB : ErrB w ea) : Calls Tryd.prog 32 #[faultC ea 6 n] w fun e w' => e = .returned (.int .i64 6) ∧ Below w.heap.size w w' := by
  obtain ⟨ty, v, hv⟩ : ∃ ty v, faultC ea 6 n = .iface ty v := ⟨_, _, rfl⟩
  have HB := hid hB
  have HE := hid hE
  have hB0 : Below w.heap.size w w := Below.refl _ _
  have i0 := fun W (hW : ErrB W ea) => isF (n := n) hW (show 1 ≤ 6 by decide) (show 6 ≤ 7 by decide) (show 0 < 6 by decide) false rfl
  have i1 := fun W (hW : ErrB W ea) => isF (n := n) hW (show 1 ≤ 6 by decide) (show 6 ≤ 7 by decide) (show 1 < 6 by decide) false rfl
  have i2 := fun W (hW : ErrB W ea) => isF (n := n) hW (show 1 ≤ 6 by decide) (show 6 ≤ 7 by decide) (show 2 < 6 by decide) false rfl
  have i3 := fun W (hW : ErrB W ea) => isF (n := n) hW (show 1 ≤ 6 by decide) (show 6 ≤ 7 by decide) (show 3 < 6 by decide) false rfl
  have i4 := fun W (hW : ErrB W ea) => isF (n := n) hW (show 1 ≤ 6 by decide) (show 6 ≤ 7 by decide) (show 4 < 6 by decide) false rfl
  have i5 := fun W (hW : ErrB W ea) => isF (n := n) hW (show 1 ≤ 6 by decide) (show 6 ≤ 7 by decide) (show 5 < 6 by decide) true rfl
  rw [hv] at i0 i1 i2 i3 i4 i5 ⊢
  clear hv hE hB
  have e0 := HE.out.cell 0 (by omega)
  simp only [errV] at e0
  go_enter Tryd.func32, Tryd.ntmps32
  go_wp2_with fail
  refine (i0 _ (HB.out.later hB0)).mono ?_
  rintro e w1 ⟨rfl, hb1⟩
  have hB1 : Below w.heap.size w w1 := hB0.trans (hb1.mono hB0.size)
  have e1 := (HE.out.later hB1).cell 1 (by omega)
  simp only [errV] at e1
  clear hb1 e0
  go_wp2_with fail
  refine (i1 _ (HB.out.later hB1)).mono ?_
  rintro e w2 ⟨rfl, hb2⟩
  have hB2 : Below w.heap.size w w2 := hB1.trans (hb2.mono hB1.size)
  have e2 := (HE.out.later hB2).cell 2 (by omega)
  simp only [errV] at e2
  clear hb2 e1
  go_wp2_with fail
  refine (i2 _ (HB.out.later hB2)).mono ?_
  rintro e w3 ⟨rfl, hb3⟩
  have hB3 : Below w.heap.size w w3 := hB2.trans (hb3.mono hB2.size)
  have e3 := (HE.out.later hB3).cell 3 (by omega)
  simp only [errV] at e3
  clear hb3 e2
  go_wp2_with fail
  refine (i3 _ (HB.out.later hB3)).mono ?_
  rintro e w4 ⟨rfl, hb4⟩
  have hB4 : Below w.heap.size w w4 := hB3.trans (hb4.mono hB3.size)
  have e4 := (HE.out.later hB4).cell 4 (by omega)
  simp only [errV] at e4
  clear hb4 e3
  go_wp2_with fail
  refine (i4 _ (HB.out.later hB4)).mono ?_
  rintro e w5 ⟨rfl, hb5⟩
  have hB5 : Below w.heap.size w w5 := hB4.trans (hb5.mono hB4.size)
  have e5 := (HE.out.later hB5).cell 5 (by omega)
  simp only [errV] at e5
  clear hb5 e4
  go_wp2_with fail
  refine (i5 _ (HB.out.later hB5)).mono ?_
  rintro e w6 ⟨rfl, hb6⟩
  have hB6 : Below w.heap.size w w6 := hB5.trans (hb6.mono hB5.size)
  have e6 := (HE.out.later hB6).cell 6 (by omega)
  simp only [errV] at e6
  clear hb6 e5
  go_wp2
  go_ret
  exact ⟨rfl, hB6⟩
set_option maxHeartbeats 2000000 in
theorem graphCode_7 (ea : Nat → Addr) (n : Int) (w : World) (hE : Errs w ea) (hB : ErrB w ea) : Calls Tryd.prog 32 #[faultC ea 7 n] w fun e w' => e = .returned (.int .i64 7) ∧ Below w.heap.size w w' := by
  obtain ⟨ty, v, hv⟩ : ∃ ty v, faultC ea 7 n = .iface ty v := ⟨_, _, rfl⟩
  have HB := hid hB
  have HE := hid hE
  have hB0 : Below w.heap.size w w := Below.refl _ _
  have i0 := fun W (hW : ErrB W ea) => isF (n := n) hW (show 1 ≤ 7 by decide) (show 7 ≤ 7 by decide) (show 0 < 6 by decide) false rfl
  have i1 := fun W (hW : ErrB W ea) => isF (n := n) hW (show 1 ≤ 7 by decide) (show 7 ≤ 7 by decide) (show 1 < 6 by decide) false rfl
  have i2 := fun W (hW : ErrB W ea) => isF (n := n) hW (show 1 ≤ 7 by decide) (show 7 ≤ 7 by decide) (show 2 < 6 by decide) false rfl
  have i3 := fun W (hW : ErrB W ea) => isF (n := n) hW (show 1 ≤ 7 by decide) (show 7 ≤ 7 by decide) (show 3 < 6 by decide) false rfl
  have i4 := fun W (hW : ErrB W ea) => isF (n := n) hW (show 1 ≤ 7 by decide) (show 7 ≤ 7 by decide) (show 4 < 6 by decide) false rfl
  have i5 := fun W (hW : ErrB W ea) => isF (n := n) hW (show 1 ≤ 7 by decide) (show 7 ≤ 7 by decide) (show 5 < 6 by decide) false rfl
  rw [hv] at i0 i1 i2 i3 i4 i5 ⊢
  clear hv hE hB
  have e0 := HE.out.cell 0 (by omega)
  simp only [errV] at e0
  go_enter Tryd.func32, Tryd.ntmps32
  go_wp2_with fail
  refine (i0 _ (HB.out.later hB0)).mono ?_
  rintro e w1 ⟨rfl, hb1⟩
  have hB1 : Below w.heap.size w w1 := hB0.trans (hb1.mono hB0.size)
  have e1 := (HE.out.later hB1).cell 1 (by omega)
  simp only [errV] at e1
  clear hb1 e0
  go_wp2_with fail
  refine (i1 _ (HB.out.later hB1)).mono ?_
  rintro e w2 ⟨rfl, hb2⟩
  have hB2 : Below w.heap.size w w2 := hB1.trans (hb2.mono hB1.size)
  have e2 := (HE.out.later hB2).cell 2 (by omega)
  simp only [errV] at e2
  clear hb2 e1
  go_wp2_with fail
  refine (i2 _ (HB.out.later hB2)).mono ?_
  rintro e w3 ⟨rfl, hb3⟩
  have hB3 : Below w.heap.size w w3 := hB2.trans (hb3.mono hB2.size)
  have e3 := (HE.out.later hB3).cell 3 (by omega)
  simp only [errV] at e3
  clear hb3 e2
  go_wp2_with fail
  refine (i3 _ (HB.out.later hB3)).mono ?_
  rintro e w4 ⟨rfl, hb4⟩
  have hB4 : Below w.heap.size w w4 := hB3.trans (hb4.mono hB3.size)
  have e4 := (HE.out.later hB4).cell 4 (by omega)
  simp only [errV] at e4
  clear hb4 e3
  go_wp2_with fail
  refine (i4 _ (HB.out.later hB4)).mono ?_
  rintro e w5 ⟨rfl, hb5⟩
  have hB5 : Below w.heap.size w w5 := hB4.trans (hb5.mono hB4.size)
  have e5 := (HE.out.later hB5).cell 5 (by omega)
  simp only [errV] at e5
  clear hb5 e4
  go_wp2_with fail
  refine (i5 _ (HB.out.later hB5)).mono ?_
  rintro e w6 ⟨rfl, hb6⟩
  have hB6 : Below w.heap.size w w6 := hB5.trans (hb6.mono hB5.size)
  have e6 := (HE.out.later hB6).cell 6 (by omega)
  simp only [errV] at e6
  clear hb6 e5
  go_wp2
  go_ret
  exact ⟨rfl, hB6⟩
theorem faultV_C {ea : Nat → Addr} {gs : List PNode} (h : codeG gs ≠ 0) : ∃ n, faultV ea gs = faultC ea (codeG gs) n := by
  refine ⟨fidx (prule gs (codeG gs - 2)) (numsI gs.length), ?_⟩
  rw [faultV, if_neg h]; rfl
theorem codeG_le (gs : List PNode) : codeG gs ≤ 7 := by
  unfold codeG
  repeat' split
  all_goals omega
set_option maxHeartbeats 1000000 in
theorem implCheck_is (ao : Option Addr) (cap : Nat) (ts : List LNode) (ea : Nat → Addr) (w : World) (hC : Roomy ts cap) (hE : Errs w ea) (hB : ErrB w ea) (hz : DIn dNode w.heap.size w ao ts) :
    Calls Tryd.prog 11 #[.slice ao ts.length cap] w fun e w' => e = .returned (.int .i64 (codeG (ts.map valNode) : Nat)) ∧ Below w.heap.size w w' := by
  have hcon := faultOf_any ao cap ts ea w hC hE hz
  have hle := codeG_le (ts.map valNode)
  have hgc : ∀ W, Below w.heap.size w W → Calls Tryd.prog 32 #[faultV ea (ts.map valNode)] W fun e w' => e = .returned (.int .i64 (codeG (ts.map valNode) : Nat)) ∧ Below W.heap.size W w' := fun W hW => by
    by_cases h0 : codeG (ts.map valNode) = 0
    · rw [faultV_nil.2 h0, h0]; exact graphCode_nil W
    · obtain ⟨n, e⟩ := faultV_C (ea := ea) h0
      rw [e]
      rcases (show codeG (ts.map valNode) = 1 ∨ codeG (ts.map valNode) = 2 ∨ codeG (ts.map valNode) = 3 ∨ codeG (ts.map valNode) = 4 ∨ codeG (ts.map valNode) = 5 ∨ codeG (ts.map valNode) = 6 ∨ codeG (ts.map valNode) = 7 from by omega) with h | h | h | h | h | h | h <;> rw [h]
      · exact graphCode_1 ea n W (hE.later hW) (hB.later hW)
      · exact graphCode_2 ea n W (hE.later hW) (hB.later hW)
      · exact graphCode_3 ea n W (hE.later hW) (hB.later hW)
      · exact graphCode_4 ea n W (hE.later hW) (hB.later hW)
      · exact graphCode_5 ea n W (hE.later hW) (hB.later hW)
      · exact graphCode_6 ea n W (hE.later hW) (hB.later hW)
      · exact graphCode_7 ea n W (hE.later hW) (hB.later hW)
  have HG := hid hgc
  obtain ⟨fv, hfv⟩ : ∃ fv, fv = faultV ea (ts.map valNode) := ⟨_, rfl⟩
  obtain ⟨cg, hcg⟩ : ∃ cg, cg = codeG (ts.map valNode) := ⟨_, rfl⟩
  rw [← hfv, ← hcg] at HG
  rw [← hfv] at hcon
  rw [← hcg]
  clear hfv hcg hgc hE hB hz hC hle
  go_enter Tryd.func11, Tryd.ntmps11
  go_wp2_with (first
    | (go_at_call 33; refine hcon.mono ?_; rintro e w1 ⟨rfl, hb1⟩)
    | (go_at_call 32; refine (HG.out w1 hb1).mono ?_; rintro e w2 ⟨rfl, hb2⟩; have hB2 : Below w.heap.size w w2 := hb1.trans (hb2.mono hb1.size)))
  go_ret
  exact ⟨rfl, hB2⟩
end Go.Proofs.YtmdgnlhnmnajkaaDoor
