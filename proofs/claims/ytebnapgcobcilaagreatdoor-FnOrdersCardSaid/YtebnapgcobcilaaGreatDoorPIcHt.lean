/- The program's CheckGraph. No conditions but those written. The widest of a graph: both sides. No conditions but those written. The walk of the law of orders: it returns true. No conditions but those written. How the arguments that come in are read. No conditions but those written. How rows that come in are read. No conditions but those written. The errors that the program holds, as the rows list them; and a world that has them. No conditions but those written. The errors that the program holds, each in memory of its own. No conditions but those written. -/
import Derived.Test.YtebnapgcobcilaaGreatDoorPEjIs
import Derived.Test.YtebnapgcobcilaaGreatDoorPId11Rc
import Derived.Test.YtebnapgcobcilaaGreatDoorPCkOd
import Derived.Test.YtebnapgcobcilaaGreatDoorPGenSg
import Derived.ProofKit
import Derived.Deep.SlicePairs
import Derived.Lib.SmallJoins
import Derived.Test.YtebnapgcobcilaaGreatDoorPOrTr3
import Derived.ChangeSame
import Derived.ChangeVars
import Derived.JoinedOf
import Derived.RowKit
import Derived.RowKitTokens
import Derived.LaidLaws
import Derived.LaidHandle
import Derived.Stop.Joined
import Derived.Stop.LaidErr
import Derived.Stop.LaidTwo
namespace Go.Proofs.YtebnapgcobcilaaGreatDoor
section
open Go.RowKit

/-- The errors lie in memory of their own, each in another place. -/
structure ErrB (W : World) (ea : Nat → Addr) : Prop where
  blk : ∀ i, i < 7 → ∃ c t, W.heap[(ea i).block]? = some (.cells c t (0, 0))
  ne : ∀ i j, i < 7 → j < 7 → i ≠ j → ea i ≠ ea j
theorem ErrB.later {W W' : World} {ea : Nat → Addr} (h : ErrB W ea) (hb : Below W.heap.size W W') : ErrB W' ea :=
  ⟨fun i hi => by
    obtain ⟨c, t, e⟩ := h.blk i hi
    exact ⟨c, t, (hb.block _ (Array.getElem?_eq_some_iff.1 e).1).trans e⟩, h.ne⟩
/-- The fault of a code. -/
def faultC (ea : Nat → Addr) (c : Nat) (n : Int) : Value := if c = 1 then errV (ea 0) else if c = 7 then errV (ea 6) else .iface 77 (.agg #[.int .i64 n, errV (ea (c - 1))])
theorem isF {W : World} {ea : Nat → Addr} (h : ErrB W ea) {c k : Nat} {n : Int} (h1 : 1 ≤ c) (h7 : c ≤ 7) (hk : k < 6) (b : Bool) (hb : decide (c = k + 1) = b) :
    Calls Tryz.prog 46 #[faultC ea c n, errV (ea k)] W fun e w' => e = .returned (.bool b) ∧ Below W.heap.size W w' := by
  obtain ⟨ck, tk, ek⟩ := h.blk k (by omega)
  subst hb
  unfold faultC
  by_cases c1 : c = 1
  · rw [if_pos c1]
    by_cases k0 : k = 0
    · subst k0; rw [decide_eq_true (by omega)]; exact is_same _ _
    · obtain ⟨c0, t0, e0⟩ := h.blk 0 (by omega)
      rw [decide_eq_false (by omega)]
      exact is_other _ _ _ _ _ _ _ (h.ne 0 k (by omega) (by omega) (by omega)) e0 ek
  · rw [if_neg c1]
    by_cases c7 : c = 7
    · rw [if_pos c7, decide_eq_false (by omega)]
      obtain ⟨c6, t6, e6⟩ := h.blk 6 (by omega)
      exact is_other _ _ _ _ _ _ _ (h.ne 6 k (by omega) (by omega) (by omega)) e6 ek
    · rw [if_neg c7]
      by_cases ce : c = k + 1
      · rw [decide_eq_true ce, ce, Nat.add_sub_cancel]
        exact is_at_same n _ _
      · rw [decide_eq_false ce]
        obtain ⟨cc, tc, ec⟩ := h.blk (c - 1) (by omega)
        exact is_at_other n _ _ _ _ _ _ _ (h.ne (c - 1) k (by omega) (by omega) (by omega)) ec ek
set_option maxHeartbeats 1000000 in
theorem graphCode_nil (w : World) : Calls Tryz.prog 20 #[.nilIface] w fun e w' => e = .returned (.int .i64 0) ∧ Below w.heap.size w w' := by
  go_enter Tryz.func20, Tryz.ntmps20
  go_wp2
  go_ret
  exact ⟨rfl, Below.refl _ _⟩
set_option maxHeartbeats 2000000 in
theorem graphCode_1 (ea : Nat → Addr) (n : Int) (w : World) (hE : Errs w ea) (hB : ErrB w ea) : Calls Tryz.prog 20 #[faultC ea 1 n] w fun e w' => e = .returned (.int .i64 1) ∧ Below w.heap.size w w' := by
  obtain ⟨ty, v, hv⟩ : ∃ ty v, faultC ea 1 n = .iface ty v := ⟨_, _, rfl⟩
  have HB := hid hB
  have HE := hid hE
  have hB0 : Below w.heap.size w w := Below.refl _ _
  have i0 := fun W (hW : ErrB W ea) => isF (n := n) hW (show 1 ≤ 1 by decide) (show 1 ≤ 7 by decide) (show 0 < 6 by decide) true rfl
  rw [hv] at i0 ⊢
  clear hv hE hB
  have e0 := HE.out.c0
  simp only [errV] at e0
  go_enter Tryz.func20, Tryz.ntmps20
  go_wp2_with fail
  refine (i0 _ (HB.out.later hB0)).mono ?_
  rintro e w1 ⟨rfl, hb1⟩
  have hB1 : Below w.heap.size w w1 := hB0.trans (hb1.mono hB0.size)
  have e1 := (HE.out.later hB1).c1
  simp only [errV] at e1
  clear hb1 e0
  go_wp2
  go_ret
  exact ⟨rfl, hB1⟩
set_option maxHeartbeats 2000000 in
theorem graphCode_2 (ea : Nat → Addr) (n : Int) (w : World) (hE : Errs w ea) (hB : ErrB w ea) : Calls Tryz.prog 20 #[faultC ea 2 n] w fun e w' => e = .returned (.int .i64 2) ∧ Below w.heap.size w w' := by
  obtain ⟨ty, v, hv⟩ : ∃ ty v, faultC ea 2 n = .iface ty v := ⟨_, _, rfl⟩
  have HB := hid hB
  have HE := hid hE
  have hB0 : Below w.heap.size w w := Below.refl _ _
  have i0 := fun W (hW : ErrB W ea) => isF (n := n) hW (show 1 ≤ 2 by decide) (show 2 ≤ 7 by decide) (show 0 < 6 by decide) false rfl
  have i1 := fun W (hW : ErrB W ea) => isF (n := n) hW (show 1 ≤ 2 by decide) (show 2 ≤ 7 by decide) (show 1 < 6 by decide) true rfl
  rw [hv] at i0 i1 ⊢
  clear hv hE hB
  have e0 := HE.out.c0
  simp only [errV] at e0
  go_enter Tryz.func20, Tryz.ntmps20
  go_wp2_with fail
  refine (i0 _ (HB.out.later hB0)).mono ?_
  rintro e w1 ⟨rfl, hb1⟩
  have hB1 : Below w.heap.size w w1 := hB0.trans (hb1.mono hB0.size)
  have e1 := (HE.out.later hB1).c1
  simp only [errV] at e1
  clear hb1 e0
  go_wp2_with fail
  refine (i1 _ (HB.out.later hB1)).mono ?_
  rintro e w2 ⟨rfl, hb2⟩
  have hB2 : Below w.heap.size w w2 := hB1.trans (hb2.mono hB1.size)
  have e2 := (HE.out.later hB2).c2
  simp only [errV] at e2
  clear hb2 e1
  go_wp2
  go_ret
  exact ⟨rfl, hB2⟩
set_option maxHeartbeats 2000000 in
theorem graphCode_3 (ea : Nat → Addr) (n : Int) (w : World) (hE : Errs w ea) (hB : ErrB w ea) : Calls Tryz.prog 20 #[faultC ea 3 n] w fun e w' => e = .returned (.int .i64 3) ∧ Below w.heap.size w w' := by
  obtain ⟨ty, v, hv⟩ : ∃ ty v, faultC ea 3 n = .iface ty v := ⟨_, _, rfl⟩
  have HB := hid hB
  have HE := hid hE
  have hB0 : Below w.heap.size w w := Below.refl _ _
  have i0 := fun W (hW : ErrB W ea) => isF (n := n) hW (show 1 ≤ 3 by decide) (show 3 ≤ 7 by decide) (show 0 < 6 by decide) false rfl
  have i1 := fun W (hW : ErrB W ea) => isF (n := n) hW (show 1 ≤ 3 by decide) (show 3 ≤ 7 by decide) (show 1 < 6 by decide) false rfl
  have i2 := fun W (hW : ErrB W ea) => isF (n := n) hW (show 1 ≤ 3 by decide) (show 3 ≤ 7 by decide) (show 2 < 6 by decide) true rfl
  rw [hv] at i0 i1 i2 ⊢
  clear hv hE hB
  have e0 := HE.out.c0
  simp only [errV] at e0
  go_enter Tryz.func20, Tryz.ntmps20
  go_wp2_with fail
  refine (i0 _ (HB.out.later hB0)).mono ?_
  rintro e w1 ⟨rfl, hb1⟩
  have hB1 : Below w.heap.size w w1 := hB0.trans (hb1.mono hB0.size)
  have e1 := (HE.out.later hB1).c1
  simp only [errV] at e1
  clear hb1 e0
  go_wp2_with fail
  refine (i1 _ (HB.out.later hB1)).mono ?_
  rintro e w2 ⟨rfl, hb2⟩
  have hB2 : Below w.heap.size w w2 := hB1.trans (hb2.mono hB1.size)
  have e2 := (HE.out.later hB2).c2
  simp only [errV] at e2
  clear hb2 e1
  go_wp2_with fail
  refine (i2 _ (HB.out.later hB2)).mono ?_
  rintro e w3 ⟨rfl, hb3⟩
  have hB3 : Below w.heap.size w w3 := hB2.trans (hb3.mono hB2.size)
  have e3 := (HE.out.later hB3).c3
  simp only [errV] at e3
  clear hb3 e2
  go_wp2
  go_ret
  exact ⟨rfl, hB3⟩
set_option maxHeartbeats 2000000 in
theorem graphCode_4 (ea : Nat → Addr) (n : Int) (w : World) (hE : Errs w ea) (hB : ErrB w ea) : Calls Tryz.prog 20 #[faultC ea 4 n] w fun e w' => e = .returned (.int .i64 4) ∧ Below w.heap.size w w' := by
  obtain ⟨ty, v, hv⟩ : ∃ ty v, faultC ea 4 n = .iface ty v := ⟨_, _, rfl⟩
  have HB := hid hB
  have HE := hid hE
  have hB0 : Below w.heap.size w w := Below.refl _ _
  have i0 := fun W (hW : ErrB W ea) => isF (n := n) hW (show 1 ≤ 4 by decide) (show 4 ≤ 7 by decide) (show 0 < 6 by decide) false rfl
  have i1 := fun W (hW : ErrB W ea) => isF (n := n) hW (show 1 ≤ 4 by decide) (show 4 ≤ 7 by decide) (show 1 < 6 by decide) false rfl
  have i2 := fun W (hW : ErrB W ea) => isF (n := n) hW (show 1 ≤ 4 by decide) (show 4 ≤ 7 by decide) (show 2 < 6 by decide) false rfl
  have i3 := fun W (hW : ErrB W ea) => isF (n := n) hW (show 1 ≤ 4 by decide) (show 4 ≤ 7 by decide) (show 3 < 6 by decide) true rfl
  rw [hv] at i0 i1 i2 i3 ⊢
  clear hv hE hB
  have e0 := HE.out.c0
  simp only [errV] at e0
  go_enter Tryz.func20, Tryz.ntmps20
  go_wp2_with fail
  refine (i0 _ (HB.out.later hB0)).mono ?_
  rintro e w1 ⟨rfl, hb1⟩
  have hB1 : Below w.heap.size w w1 := hB0.trans (hb1.mono hB0.size)
  have e1 := (HE.out.later hB1).c1
  simp only [errV] at e1
  clear hb1 e0
  go_wp2_with fail
  refine (i1 _ (HB.out.later hB1)).mono ?_
  rintro e w2 ⟨rfl, hb2⟩
  have hB2 : Below w.heap.size w w2 := hB1.trans (hb2.mono hB1.size)
  have e2 := (HE.out.later hB2).c2
  simp only [errV] at e2
  clear hb2 e1
  go_wp2_with fail
  refine (i2 _ (HB.out.later hB2)).mono ?_
  rintro e w3 ⟨rfl, hb3⟩
  have hB3 : Below w.heap.size w w3 := hB2.trans (hb3.mono hB2.size)
  have e3 := (HE.out.later hB3).c3
  simp only [errV] at e3
  clear hb3 e2
  go_wp2_with fail
  refine (i3 _ (HB.out.later hB3)).mono ?_
  rintro e w4 ⟨rfl, hb4⟩
  have hB4 : Below w.heap.size w w4 := hB3.trans (hb4.mono hB3.size)
  have e4 := (HE.out.later hB4).c4
  simp only [errV] at e4
  clear hb4 e3
  go_wp2
  go_ret
  exact ⟨rfl, hB4⟩
set_option maxHeartbeats 2000000 in
theorem graphCode_5 (ea : Nat → Addr) (n : Int) (w : World) (hE : Errs w ea) (hB : ErrB w ea) : Calls Tryz.prog 20 #[faultC ea 5 n] w fun e w' => e = .returned (.int .i64 5) ∧ Below w.heap.size w w' := by
  obtain ⟨ty, v, hv⟩ : ∃ ty v, faultC ea 5 n = .iface ty v := ⟨_, _, rfl⟩
  have HB := hid hB
  have HE := hid hE
  have hB0 : Below w.heap.size w w := Below.refl _ _
  have i0 := fun W (hW : ErrB W ea) => isF (n := n) hW (show 1 ≤ 5 by decide) (show 5 ≤ 7 by decide) (show 0 < 6 by decide) false rfl
  have i1 := fun W (hW : ErrB W ea) => isF (n := n) hW (show 1 ≤ 5 by decide) (show 5 ≤ 7 by decide) (show 1 < 6 by decide) false rfl
  have i2 := fun W (hW : ErrB W ea) => isF (n := n) hW (show 1 ≤ 5 by decide) (show 5 ≤ 7 by decide) (show 2 < 6 by decide) false rfl
  have i3 := fun W (hW : ErrB W ea) => isF (n := n) hW (show 1 ≤ 5 by decide) (show 5 ≤ 7 by decide) (show 3 < 6 by decide) false rfl
  have i4 := fun W (hW : ErrB W ea) => isF (n := n) hW (show 1 ≤ 5 by decide) (show 5 ≤ 7 by decide) (show 4 < 6 by decide) true rfl
  rw [hv] at i0 i1 i2 i3 i4 ⊢
  clear hv hE hB
  have e0 := HE.out.c0
  simp only [errV] at e0
  go_enter Tryz.func20, Tryz.ntmps20
  go_wp2_with fail
  refine (i0 _ (HB.out.later hB0)).mono ?_
  rintro e w1 ⟨rfl, hb1⟩
  have hB1 : Below w.heap.size w w1 := hB0.trans (hb1.mono hB0.size)
  have e1 := (HE.out.later hB1).c1
  simp only [errV] at e1
  clear hb1 e0
  go_wp2_with fail
  refine (i1 _ (HB.out.later hB1)).mono ?_
  rintro e w2 ⟨rfl, hb2⟩
  have hB2 : Below w.heap.size w w2 := hB1.trans (hb2.mono hB1.size)
  have e2 := (HE.out.later hB2).c2
  simp only [errV] at e2
  clear hb2 e1
  go_wp2_with fail
  refine (i2 _ (HB.out.later hB2)).mono ?_
  rintro e w3 ⟨rfl, hb3⟩
  have hB3 : Below w.heap.size w w3 := hB2.trans (hb3.mono hB2.size)
  have e3 := (HE.out.later hB3).c3
  simp only [errV] at e3
  clear hb3 e2
  go_wp2_with fail
  refine (i3 _ (HB.out.later hB3)).mono ?_
  rintro e w4 ⟨rfl, hb4⟩
  have hB4 : Below w.heap.size w w4 := hB3.trans (hb4.mono hB3.size)
  have e4 := (HE.out.later hB4).c4
  simp only [errV] at e4
  clear hb4 e3
  go_wp2_with fail
  refine (i4 _ (HB.out.later hB4)).mono ?_
  rintro e w5 ⟨rfl, hb5⟩
  have hB5 : Below w.heap.size w w5 := hB4.trans (hb5.mono hB4.size)
  have e5 := (HE.out.later hB5).c5
  simp only [errV] at e5
  clear hb5 e4
  go_wp2
  go_ret
  exact ⟨rfl, hB5⟩
set_option maxHeartbeats 2000000 in
theorem graphCode_6 (ea : Nat → Addr) (n : Int) (w : World) (hE : Errs w ea) (hB : ErrB w ea) : Calls Tryz.prog 20 #[faultC ea 6 n] w fun e w' => e = .returned (.int .i64 6) ∧ Below w.heap.size w w' := by
  obtain ⟨ty, v, hv⟩ : ∃ ty v, faultC ea 6 n = .iface ty v := ⟨_, _, rfl⟩
  have HB := hid hB
  have HE := hid hE
  have hB0 : Below w.heap.size w w := Below.refl _ _
  have i0 := fun W (hW : ErrB W ea) => isF (n := n) hW (show 1 ≤ 6 by decide) (show 6 ≤ 7 by decide) (show 0 < 6 by decide) false rfl
  have i1 := fun W (hW : ErrB W ea) => isF (n := n) hW (show 1 ≤ 6 by decide) (show 6 ≤ 7 by decide) (show 1 < 6 by decide) false rfl
  have i2 := fun W (hW : ErrB W ea) => isF (n := n) hW (show 1 ≤ 6 by decide) (show 6 ≤ 7 by decide) (show 2 < 6 by decide) false rfl
  have i3 := fun W (hW : ErrB W ea) => isF (n := n) hW (show 1 ≤ 6 by decide) (show 6 ≤ 7 by decide) (show 3 < 6 by decide) false rfl
  have i4 := fun W (hW : ErrB W ea) => isF (n := n) hW (show 1 ≤ 6 by decide) (show 6 ≤ 7 by decide) (show 4 < 6 by decide) false rfl
  have i5 := fun W (hW : ErrB W ea) => isF (n := n) hW (show 1 ≤ 6 by decide) (show 6 ≤ 7 by decide) (show 5 < 6 by decide) true rfl
  rw [hv] at i0 i1 i2 i3 i4 i5 ⊢
  clear hv hE hB
  have e0 := HE.out.c0
  simp only [errV] at e0
  go_enter Tryz.func20, Tryz.ntmps20
  go_wp2_with fail
  refine (i0 _ (HB.out.later hB0)).mono ?_
  rintro e w1 ⟨rfl, hb1⟩
  have hB1 : Below w.heap.size w w1 := hB0.trans (hb1.mono hB0.size)
  have e1 := (HE.out.later hB1).c1
  simp only [errV] at e1
  clear hb1 e0
  go_wp2_with fail
  refine (i1 _ (HB.out.later hB1)).mono ?_
  rintro e w2 ⟨rfl, hb2⟩
  have hB2 : Below w.heap.size w w2 := hB1.trans (hb2.mono hB1.size)
  have e2 := (HE.out.later hB2).c2
  simp only [errV] at e2
  clear hb2 e1
  go_wp2_with fail
  refine (i2 _ (HB.out.later hB2)).mono ?_
  rintro e w3 ⟨rfl, hb3⟩
  have hB3 : Below w.heap.size w w3 := hB2.trans (hb3.mono hB2.size)
  have e3 := (HE.out.later hB3).c3
  simp only [errV] at e3
  clear hb3 e2
  go_wp2_with fail
  refine (i3 _ (HB.out.later hB3)).mono ?_
  rintro e w4 ⟨rfl, hb4⟩
  have hB4 : Below w.heap.size w w4 := hB3.trans (hb4.mono hB3.size)
  have e4 := (HE.out.later hB4).c4
  simp only [errV] at e4
  clear hb4 e3
  go_wp2_with fail
  refine (i4 _ (HB.out.later hB4)).mono ?_
  rintro e w5 ⟨rfl, hb5⟩
  have hB5 : Below w.heap.size w w5 := hB4.trans (hb5.mono hB4.size)
  have e5 := (HE.out.later hB5).c5
  simp only [errV] at e5
  clear hb5 e4
  go_wp2_with fail
  refine (i5 _ (HB.out.later hB5)).mono ?_
  rintro e w6 ⟨rfl, hb6⟩
  have hB6 : Below w.heap.size w w6 := hB5.trans (hb6.mono hB5.size)
  have e6 := (HE.out.later hB6).c6
  simp only [errV] at e6
  clear hb6 e5
  go_wp2
  go_ret
  exact ⟨rfl, hB6⟩
set_option maxHeartbeats 2000000 in
theorem graphCode_7 (ea : Nat → Addr) (n : Int) (w : World) (hE : Errs w ea) (hB : ErrB w ea) : Calls Tryz.prog 20 #[faultC ea 7 n] w fun e w' => e = .returned (.int .i64 7) ∧ Below w.heap.size w w' := by
  obtain ⟨ty, v, hv⟩ : ∃ ty v, faultC ea 7 n = .iface ty v := ⟨_, _, rfl⟩
  have HB := hid hB
  have HE := hid hE
  have hB0 : Below w.heap.size w w := Below.refl _ _
  have i0 := fun W (hW : ErrB W ea) => isF (n := n) hW (show 1 ≤ 7 by decide) (show 7 ≤ 7 by decide) (show 0 < 6 by decide) false rfl
  have i1 := fun W (hW : ErrB W ea) => isF (n := n) hW (show 1 ≤ 7 by decide) (show 7 ≤ 7 by decide) (show 1 < 6 by decide) false rfl
  have i2 := fun W (hW : ErrB W ea) => isF (n := n) hW (show 1 ≤ 7 by decide) (show 7 ≤ 7 by decide) (show 2 < 6 by decide) false rfl
  have i3 := fun W (hW : ErrB W ea) => isF (n := n) hW (show 1 ≤ 7 by decide) (show 7 ≤ 7 by decide) (show 3 < 6 by decide) false rfl
  have i4 := fun W (hW : ErrB W ea) => isF (n := n) hW (show 1 ≤ 7 by decide) (show 7 ≤ 7 by decide) (show 4 < 6 by decide) false rfl
  have i5 := fun W (hW : ErrB W ea) => isF (n := n) hW (show 1 ≤ 7 by decide) (show 7 ≤ 7 by decide) (show 5 < 6 by decide) false rfl
  rw [hv] at i0 i1 i2 i3 i4 i5 ⊢
  clear hv hE hB
  have e0 := HE.out.c0
  simp only [errV] at e0
  go_enter Tryz.func20, Tryz.ntmps20
  go_wp2_with fail
  refine (i0 _ (HB.out.later hB0)).mono ?_
  rintro e w1 ⟨rfl, hb1⟩
  have hB1 : Below w.heap.size w w1 := hB0.trans (hb1.mono hB0.size)
  have e1 := (HE.out.later hB1).c1
  simp only [errV] at e1
  clear hb1 e0
  go_wp2_with fail
  refine (i1 _ (HB.out.later hB1)).mono ?_
  rintro e w2 ⟨rfl, hb2⟩
  have hB2 : Below w.heap.size w w2 := hB1.trans (hb2.mono hB1.size)
  have e2 := (HE.out.later hB2).c2
  simp only [errV] at e2
  clear hb2 e1
  go_wp2_with fail
  refine (i2 _ (HB.out.later hB2)).mono ?_
  rintro e w3 ⟨rfl, hb3⟩
  have hB3 : Below w.heap.size w w3 := hB2.trans (hb3.mono hB2.size)
  have e3 := (HE.out.later hB3).c3
  simp only [errV] at e3
  clear hb3 e2
  go_wp2_with fail
  refine (i3 _ (HB.out.later hB3)).mono ?_
  rintro e w4 ⟨rfl, hb4⟩
  have hB4 : Below w.heap.size w w4 := hB3.trans (hb4.mono hB3.size)
  have e4 := (HE.out.later hB4).c4
  simp only [errV] at e4
  clear hb4 e3
  go_wp2_with fail
  refine (i4 _ (HB.out.later hB4)).mono ?_
  rintro e w5 ⟨rfl, hb5⟩
  have hB5 : Below w.heap.size w w5 := hB4.trans (hb5.mono hB4.size)
  have e5 := (HE.out.later hB5).c5
  simp only [errV] at e5
  clear hb5 e4
  go_wp2_with fail
  refine (i5 _ (HB.out.later hB5)).mono ?_
  rintro e w6 ⟨rfl, hb6⟩
  have hB6 : Below w.heap.size w w6 := hB5.trans (hb6.mono hB5.size)
  have e6 := (HE.out.later hB6).c6
  simp only [errV] at e6
  clear hb6 e5
  go_wp2
  go_ret
  exact ⟨rfl, hB6⟩
theorem faultV_C {ea : Nat → Addr} {gs : List PNode} (h : codeG gs ≠ 0) : ∃ n, faultV ea gs = faultC ea (codeG gs) n := by
  refine ⟨fidx (prule gs (codeG gs - 2)) (numsI gs.length), ?_⟩
  rw [faultV, if_neg h]; rfl
theorem codeG_le (gs : List PNode) : codeG gs ≤ 7 := by
  unfold codeG
  repeat' split
  all_goals omega
set_option maxHeartbeats 1000000 in
theorem implCheck_is (ao : Option Addr) (cap : Nat) (ts : List LNode) (ea : Nat → Addr) (w : World) (hC : Roomy ts cap) (hE : Errs w ea) (hB : ErrB w ea) (hz : DIn dNode w.heap.size w ao ts) :
    Calls Tryz.prog 8 #[.slice ao ts.length cap] w fun e w' => e = .returned (.int .i64 (codeG (ts.map valNode) : Nat)) ∧ Below w.heap.size w w' := by
  have hcon := faultOf_any ao cap ts ea w hC hE hz
  have hle := codeG_le (ts.map valNode)
  have hgc : ∀ W, Below w.heap.size w W → Calls Tryz.prog 20 #[faultV ea (ts.map valNode)] W fun e w' => e = .returned (.int .i64 (codeG (ts.map valNode) : Nat)) ∧ Below W.heap.size W w' := fun W hW => by
    by_cases h0 : codeG (ts.map valNode) = 0
    · rw [faultV_nil.2 h0, h0]; exact graphCode_nil W
    · obtain ⟨n, e⟩ := faultV_C (ea := ea) h0
      rw [e]
      rcases (show codeG (ts.map valNode) = 1 ∨ codeG (ts.map valNode) = 2 ∨ codeG (ts.map valNode) = 3 ∨ codeG (ts.map valNode) = 4 ∨ codeG (ts.map valNode) = 5 ∨ codeG (ts.map valNode) = 6 ∨ codeG (ts.map valNode) = 7 from by omega) with h | h | h | h | h | h | h <;> rw [h]
      · exact graphCode_1 ea n W (hE.later hW) (hB.later hW)
      · exact graphCode_2 ea n W (hE.later hW) (hB.later hW)
      · exact graphCode_3 ea n W (hE.later hW) (hB.later hW)
      · exact graphCode_4 ea n W (hE.later hW) (hB.later hW)
      · exact graphCode_5 ea n W (hE.later hW) (hB.later hW)
      · exact graphCode_6 ea n W (hE.later hW) (hB.later hW)
      · exact graphCode_7 ea n W (hE.later hW) (hB.later hW)
  have HG := hid hgc
  obtain ⟨fv, hfv⟩ : ∃ fv, fv = faultV ea (ts.map valNode) := ⟨_, rfl⟩
  obtain ⟨cg, hcg⟩ : ∃ cg, cg = codeG (ts.map valNode) := ⟨_, rfl⟩
  rw [← hfv, ← hcg] at HG
  rw [← hfv] at hcon
  rw [← hcg]
  clear hfv hcg hgc hE hB hz hC hle
  go_enter Tryz.func8, Tryz.ntmps8
  go_wp2_with (first
    | (go_at_call 21; refine hcon.mono ?_; rintro e w1 ⟨rfl, hb1⟩)
    | (go_at_call 20; refine (HG.out w1 hb1).mono ?_; rintro e w2 ⟨rfl, hb2⟩; have hB2 : Below w.heap.size w w2 := hb1.trans (hb2.mono hb1.size)))
  go_ret
  exact ⟨rfl, hB2⟩
end
section
open Go.RowKit

set_option maxRecDepth 10000 in
set_option maxHeartbeats 4000000 in
theorem implWidest_is (ao : Option Addr) (cap : Nat) (ts : List LNode) (ea : Nat → Addr) (w : World) (hC : Roomy ts cap) (hE : Errs w ea) (hz : DIn dNode w.heap.size w ao ts) :
    Calls Tryz.prog 12 #[.slice ao ts.length cap] w fun e w' => e = .returned (.tuple #[.int .i64 (widR (ts.map valNode)).1, .bool (widR (ts.map valNode)).2]) ∧ Below w.heap.size w w' := by
  have hcon := goodGraph_is ao cap ts ea w hC hE hz
  have HZ := hid hz
  have HFi := hid hC.fitN
  clear hz hE hC
  by_cases h0 : codeG (ts.map valNode) = 0
  · have HV : Hid (widR (ts.map valNode) = (widP (ts.map valNode), true)) := by rw [Hid, widR, if_pos h0]
    obtain ⟨hm, hbk, hor⟩ := codeG_zero h0
    have HED := hid (edges_of (by omega) (hbk 4 (by omega)))
    have HOR := hid hor
    have h1 : 1 ≤ ts.length := by rw [val_len] at hm; omega
    rw [decide_eq_true h0] at hcon
    clear h0 hm hbk hor
    go_enter Tryz.func12, Tryz.ntmps12
    go_wp2_with fail
    refine hcon.mono ?_
    rintro e w1 ⟨rfl, hb1⟩
    have hB1 : Below w.heap.size w w1 := hb1
    clear hb1 hcon
    go_wp2_with fail
    refine (widestIn_is ao cap ts w1 HFi.out (by omega) HED.out (HZ.out.later dNode_ok hB1)).mono ?_
    rintro e w3 ⟨rfl, hb3⟩
    have hB3 := hB1.trans (hb3.mono hB1.size)
    clear hb3
    go_wp2
    rw [HV.out]
    refine bodyPost_ret (v := .tuple #[.int .i64 (widP (ts.map valNode)), .bool true]) (by simp [results, Tryz.results12, go_sem]) rfl ?_
    exact ⟨rfl, hB3⟩
  · have HV : Hid (widR (ts.map valNode) = (0, false)) := by rw [Hid, widR, if_neg h0]
    rw [decide_eq_false h0] at hcon
    clear h0
    go_enter Tryz.func12, Tryz.ntmps12
    go_wp2_with fail
    refine hcon.mono ?_
    rintro e w1 ⟨rfl, hb1⟩
    have hB1 : Below w.heap.size w w1 := hb1
    clear hb1
    go_wp2
    rw [HV.out]
    refine bodyPost_ret (v := .tuple #[.int .i64 0, .bool false]) (by simp [results, Tryz.results12, go_sem]) rfl ?_
    exact ⟨rfl, hB1⟩
end
section
open Go.RowKit

set_option maxHeartbeats 2000000 in
theorem has_is (n₀ : Nat) (ao : Option Addr) (cap : Nat) (zs : List Int) (n : Int) (w : World) (b : Bool) (hl : zs.length ≤ 1048576) (hz : kI.In n₀ w ao zs) (hb : hasB zs n = b) :
    Calls Tryz.prog 9 #[.slice ao zs.length cap, .int .i64 n] w fun e w' => e = .returned (.bool b) ∧ w' = w := by
  have HB : Hid (hasB zs n = b) := hb
  clear hb
  go_enter Tryz.func9, Tryz.ntmps9
  go_wp2
  go_loop [9] (fun i => ∃ k : Nat, k ≤ zs.length ∧ i = .int .i64 k ∧ Hid (∀ j, j < k → el zs j ≠ n)) (fun i => zs.length - (intOf i).toNat)
  case atStart => exact ⟨0, Nat.zero_le _, rfl, fun j hj => by omega⟩
  case round =>
    obtain ⟨k, hk, rfl, hno⟩ := hrel
    by_cases hlt : k < zs.length
    · obtain ⟨b, off, rfl, hb, hc⟩ := ints_at hz hlt
      have hck := hc k hlt
      clear hc hz
      obtain ⟨x, hx⟩ : ∃ x, x = el zs k := ⟨_, rfl⟩
      rw [← hx] at hck
      have HX : Hid (x = el zs k) := hx
      clear hx
      by_cases he : x = n
      · have he' : (x == n) = true := by simpa using he
        have HY : Hid (hasB zs n = true) := hasB_yes hlt (by rw [← HX.out]; exact he)
        clear he
        go_wp2
        go_ret
        exact ⟨ret_bool (by rw [← HB.out, HY.out]), rfl⟩
      · have he' : (x == n) = false := by simpa using he
        go_wp2
        go_round
        case rel => exact ⟨k + 1, by omega, by go_num, fun j hj => by
          rcases Nat.lt_succ_iff_lt_or_eq.1 hj with h | rfl
          · exact hno.out j h
          · rw [← HX.out]; exact he⟩
        case measure => simp [intOf]; omega
    · obtain rfl : k = zs.length := by omega
      have HN : Hid (hasB zs n = false) := hasB_no hno.out
      go_wp2
      go_ret
      exact ⟨ret_bool (by rw [← HB.out, HN.out]), rfl⟩
set_option maxHeartbeats 2000000 in
theorem sameInts_same (ao bo : Option Addr) (cap cap' : Nat) (zs : List Int) (w : World) (hl : zs.length ≤ 1048576) (hz : kI.In w.heap.size w ao zs) (hz' : kI.In w.heap.size w bo zs) :
    Calls Tryz.prog 7 #[.slice ao zs.length cap, .slice bo zs.length cap'] w fun e w' => e = .returned (.bool true) ∧ Below w.heap.size w w' := by
  have hne : ((zs.length : Int) != (zs.length : Int)) = false := by simp
  go_enter Tryz.func7, Tryz.ntmps7
  go_wp2
  go_loopw [13] (fun i wr => ∃ k : Nat, k ≤ zs.length ∧ i = .int .i64 k ∧ Below w.heap.size w wr) (fun i _ => zs.length - (intOf i).toNat)
  case atStart => exact ⟨0, Nat.zero_le _, rfl, Below.refl _ _⟩
  case round =>
    obtain ⟨k, hk, rfl, hnx⟩ := hrel
    by_cases hlt : k < zs.length
    · obtain ⟨b, off, rfl, hb, hc⟩ := ints_at hz hlt
      obtain ⟨b', off', rfl, hb', hc'⟩ := ints_at hz' hlt
      have hck := (hnx.cell (p := ⟨b, off + k, none⟩) hb).trans (hc k hlt)
      have hck' := (hnx.cell (p := ⟨b', off' + k, none⟩) hb').trans (hc' k hlt)
      clear hc hz hc' hz'
      obtain ⟨x, hx⟩ : ∃ x, x = el zs k := ⟨_, rfl⟩
      rw [← hx] at hck hck'
      clear hx
      have hxx : (x != x) = false := by simp
      go_wp2
      go_quiet (fail)
      go_wp2
      go_roundw
      case rel => exact ⟨k + 1, by omega, by go_num, below_draws hnx _⟩
      case measure => simp [intOf]; omega
    · obtain rfl : k = zs.length := by omega
      go_wp2
      go_ret
      exact ⟨rfl, hnx⟩
set_option maxRecDepth 100000 in
set_option maxHeartbeats 32000000 in
theorem lawOrders_any (co : Option Addr) (cap : Nat) (bs : List Int) (ea : Nat → Addr) (w : World) (hl : bs.length ≤ 9223372036854775807) (hb : BytesIn w.heap.size w co bs) (hE : Errs w ea) (hEB : ErrB w ea) :
    Calls Tryz.prog 3 #[.slice co bs.length cap] w fun e w' => e = .returned (.bool true) ∧ Below w.heap.size w w' := by
  obtain ⟨i0, hi, hz0, hz1, hz2⟩ := info_parts Tryz.info3
  by_cases hbig : 1048576 < bs.length
  · have hbig' : decide ((1048576 : Int) < (bs.length : Int)) = true := by simp; omega
    clear hbig
    go_enter Tryz.func3, Tryz.ntmps3
    go_wp2
    go_ret
    exact ⟨rfl, Below.refl _ _⟩
  have hbig' : decide ((1048576 : Int) < (bs.length : Int)) = false := by simp; omega
  have HE := hid hE
  have HEB := hid hEB
  clear hbig hE hEB
  go_enter Tryz.func3, Tryz.ntmps3
  go_wp2_with fail
  refine (drawMean_any co cap bs w hl hb).mono ?_
  rintro e w1 ⟨⟨o, c, us, nd, x, rfl, hS, hD⟩, hb1⟩
  have hB1 : Below w.heap.size w w1 := hb1
  have D1 := hid hD
  have hul : us.length ≤ 11 := hS.1
  have RM := hid (hD.roomy (by omega) fun a ha => by have := hS.2 a ha; omega)
  obtain ⟨⟨q, y⟩, hq⟩ : ∃ Q, orderR (us.map valNode) = Q := ⟨_, rfl⟩
  have HQ := hid hq
  have hql : q.length ≤ 1048576 := by have := orderR_len (us.map valNode); rw [hq] at this; dsimp only at this; omega
  have hyy : (y != y) = false := by simp
  clear hb1 hD hS hq
  (try dsimp only)
  have hcon := implOrder_is o c us ea w1 RM.out (HE.out.later hB1) D1.out.in
  rw [HQ.out] at hcon
  go_wp2_with fail
  refine hcon.mono ?_
  rintro e w2 ⟨⟨o2, c2, rfl, hF2⟩, hb2⟩
  (try dsimp only at hF2)
  have hB2 := hB1.trans (hb2.mono hB1.size)
  have D2 := hid (D1.out.later hb2)
  clear D1 hb2
  have P2 := hid hF2
  have hcon := specOrder_is o c us w2 RM.out D2.out.in
  rw [HQ.out] at hcon
  clear hF2
  (try dsimp only)
  go_wp2_with fail
  refine hcon.mono ?_
  rintro e w3 ⟨⟨o3, c3, rfl, hF3⟩, hb3⟩
  (try dsimp only at hF3)
  have hB3 := hB2.trans (hb3.mono hB2.size)
  have D3 := hid (D2.out.later hb3)
  have P3 := hid (P2.out.later hb3)
  clear D2 P2 hb3
  have S3 := hid hF3
  clear hF3 hcon
  (try dsimp only)
  go_wp2_with fail
  refine (sameInts_same o2 o3 c2 c3 q w3 hql P3.out.in S3.out.in).mono ?_
  rintro e w4 ⟨rfl, hb4⟩
  clear S3
  have hB4 := hB3.trans (hb4.mono hB3.size)
  have D4 := hid (D3.out.later hb4)
  have P4 := hid (P3.out.later hb4)
  clear D3 P3 hb4
  cases y with
  | false =>
    have H0 := hid (order_false HQ.out)
    have hcon := implCheck_is o c us ea w4 RM.out (HE.out.later hB4) (HEB.out.later hB4) D4.out.in
    have hne : (((codeG (us.map valNode) : Nat) : Int) != 0) = true := by have := H0.out; simp; omega
    generalize codeG (us.map valNode) = cd at hcon hne
    clear H0
    (try dsimp only)
    go_wp2_with fail
    refine hcon.mono ?_
    rintro e w5 ⟨rfl, hb5⟩
    have hB5 := hB4.trans (hb5.mono hB4.size)
    clear hb5 hcon
    go_wp2
    go_ret
    exact ⟨rfl, hB5⟩
  | true =>
    obtain ⟨h0, hqo⟩ := order_true HQ.out
    obtain ⟨hm, hbk, hor⟩ := codeG_zero h0
    have HED := hid (edges_of (by omega) (hbk 4 (by omega)))
    have HOD : Hid (Ordd (us.map valNode) q) := by rw [Hid, hqo]; exact orderP_ordd hor
    have HQL : Hid (q.length = us.length) := by rw [Hid, HOD.out.len, List.length_map]
    have HND := hid HOD.out.nodup
    have HRG : Hid (∀ a ∈ q, ∃ j : Nat, j < us.length ∧ a = (j : Int)) := fun a ha => by obtain ⟨j, hj, e⟩ := HOD.out.rng a ha; rw [List.length_map] at hj; exact ⟨j, hj, e⟩
    have H0 := hid h0
    clear h0 hqo hm hbk hor
    (try dsimp only)
    obtain ⟨pb, hpb⟩ : ∃ pb, pb = w4.heap.size := ⟨_, rfl⟩
    go_wp2_with (at_make; refine wpList_make_full _ rfl _ _ 26 rfl w4.heap.size 3 i0 (.int .i64 0) 1 Tryz.underlying26 hi hz0 hz1 .i64 .i64 _ _ us.length rfl rfl rfl rfl (by rw [hz2]; omega) (by unfold maxLen; omega) (Nat.le_refl _) ?_; intro w5 hown hgrow; have hb5 : Below w4.heap.size w4 w5 := (Below.refl _ _).grown hgrow (Nat.le_refl _) (fun k e => by cases e); have HO := hid (made_box hown); have hsz5 := (owns_lt hown).2; rw [← hpb] at HO hsz5 ⊢; have hpw : w4.heap.size ≤ pb := (by omega); clear hown hgrow hpb)
    have X5 : Hid (Bx w5 pb ((List.replicate us.length (0 : Int)).map (Value.int .i64))) := by
      have h : Bx w5 pb (madeCells #[Value.int .i64 0] (us.length * 1)).toList := HO.out
      rw [toList_madeCells_one, Nat.mul_one] at h
      rw [Hid, List.map_replicate]; exact h
    have hB5 := hB4.trans (hb5.mono hB4.size)
    have D5 := hid (D4.out.later hb5)
    have P5 := hid (P4.out.later hb5)
    have HP4 : Hid (w4.heap.size ≤ pb ∧ pb < w5.heap.size) := ⟨hpw, hsz5⟩
    have D4' := hid (D4.out)
    have P4' := hid (P4.out)
    have HW5 := hid hb5
    have hB4' := hid hB4
    clear HO D4 P4 hb5 hsz5 hpw
    go_loopw [61] (fun i wr => ∃ (t : Nat) (P : List Int), i = .int .i64 (t : Int) ∧ t ≤ q.length ∧ Hid (P.length = us.length) ∧ Hid (∀ j, j < P.length → -1 ≤ el P j ∧ el P j ≤ 1048576) ∧ Hid (PlaceAt q t P) ∧ Hid (Bx wr pb (P.map (Value.int .i64))) ∧ Below w4.heap.size w4 wr) (fun i _ => q.length - (intOf i).toNat)
    case atStart => exact ⟨0, _, rfl, Nat.zero_le _, by simp [Hid], fun j hj => by simp at hj; simp [el, hj], PlaceAt.zero _ _, X5, HW5.out⟩
    case round =>
      clear X5 D5 P5 hB5 HW5
      obtain ⟨t, P, rfl, ht, HPL, HPB, HPA, hX, hBr⟩ := hrel
      have hBw := hB4'.out.trans (hBr.mono hB4'.out.size)
      have Dr := hid (D4'.out.later hBr)
      have Pr := hid (P4'.out.later hBr)
      by_cases htq : t < q.length
      · have hti : (t : Int) < (q.length : Int) := by omega
        obtain ⟨qb, qoff, rfl, hqb, hqc⟩ := ints_at Pr.out.in htq
        obtain ⟨j, hj, hje⟩ := HRG.out _ (el_mem htq)
        have ct := hqc t htq
        rw [hje] at ct
        have hji : (j : Int) < (us.length : Int) := by omega
        have hjP : j < P.length := by rw [HPL.out]; exact hj
        have fj := hX.out.f j (map_elI hjP)
        have cj := hX.out.c j (map_elI hjP)
        have HPA2 := hid (HPA.out.step HND.out htq hje hjP)
        have HS : Hid (Bx (wr.setCell ⟨pb, j, none⟩ (.int .i64 (t : Int))) pb ((P.set j (t : Int)).map (Value.int .i64))) := by rw [Hid, map_setI]; exact hX.out.set j _
        have hB2 : Below w4.heap.size w4 (wr.setCell ⟨pb, j, none⟩ (.int .i64 (t : Int))) := hBr.setCell (p := ⟨pb, j, none⟩) HP4.out.1 _
        have HPB2 : Hid (∀ i, i < (P.set j (t : Int)).length → -1 ≤ el (P.set j (t : Int)) i ∧ el (P.set j (t : Int)) i ≤ 1048576) := fun i hi' => by
          by_cases e : i = j
          · subst e; simp [el, hjP]; omega
          · have := HPB.out i (by simpa using hi'); simpa [el, Ne.symm e] using this
        have HPL2 : Hid ((P.set j (t : Int)).length = us.length) := by rw [Hid, List.length_set]; exact HPL.out
        generalize el P j = old at cj
        clear hqc hje HPA HPL HPB hjP
        go_wp2
        go_roundw
        case rel => exact ⟨t + 1, _, by go_num, by omega, HPL2, HPB2, HPA2, HS, hB2⟩
        case measure => simp [intOf]; omega
      · obtain rfl : t = q.length := by omega
        have HPF := hid (fun (k : Nat) (hk : k < us.length) => PlaceAt.of HOD.out HPA.out (k := k) (by rw [List.length_map]; exact hk))
        have hnd : Hid (∀ k, k < us.length → ∃ b off nxo nxc, o = some ⟨b, off, none⟩ ∧ b < wr.heap.size ∧ (∃ nm kd sa sb cp, wr.cell? ⟨b, off + k * 6, none⟩ = some (.string nm) ∧ wr.cell? ⟨b, off + k * 6 + 1, none⟩ = some (.int .i64 kd) ∧ wr.cell? ⟨b, off + k * 6 + 2, none⟩ = some (.int .i64 sa) ∧ wr.cell? ⟨b, off + k * 6 + 3, none⟩ = some (.int .i64 sb) ∧ wr.cell? ⟨b, off + k * 6 + 4, none⟩ = some (.int .i64 cp)) ∧ wr.cell? ⟨b, off + k * 6 + 5, none⟩ = some (.slice nxo (nxP (us.map valNode) k).length nxc) ∧ kI.In wr.heap.size wr nxo (nxP (us.map valNode) k)) := fun k hk => by
          obtain ⟨b, off, e, hb', hc'⟩ := hNode_at Dr.out.in.1 hk
          have hin := Dr.out.in.2 k hk
          have hev : nxP (us.map valNode) k = (el us k).2.2.2.2.2.2.2 := by rw [nxP, el_val hk]; rfl
          rw [hev]
          exact ⟨b, off, _, _, e, hb', ⟨_, _, _, _, _, (hc' k hk).1, (hc' k hk).2.1, (hc' k hk).2.2.1, (hc' k hk).2.2.2.1, (hc' k hk).2.2.2.2.1⟩, (hc' k hk).2.2.2.2.2, hin⟩
        rename World => wa
        have XA := hid hX.out
        have hwa : pb < wa.heap.size := hX.out.size
        clear hX HPA hBr
        go_wp2
        go_loopw [73] (fun i wr => ∃ t : Nat, i = .int .i64 (t : Int) ∧ t ≤ us.length ∧ Below wa.heap.size wa wr) (fun i _ => us.length - (intOf i).toNat)
        case atStart => exact ⟨0, rfl, Nat.zero_le _, Below.refl _ _⟩
        case round =>
          obtain ⟨t, rfl, ht2, hBr⟩ := hrel
          by_cases htq : t < us.length
          · have hti : (t : Int) < (us.length : Int) := by omega
            obtain ⟨b, off, nxo, nxc, rfl, hbb, ⟨nm, kd, sa, sb, cp, d0, d1, d2, d3, d4⟩, d5, hI⟩ := hnd.out t htq
            have e0 := (hBr.cell (p := ⟨b, off + t * 6, none⟩) hbb).trans d0
            have e1 := (hBr.cell (p := ⟨b, off + t * 6 + 1, none⟩) hbb).trans d1
            have e2 := (hBr.cell (p := ⟨b, off + t * 6 + 2, none⟩) hbb).trans d2
            have e3 := (hBr.cell (p := ⟨b, off + t * 6 + 3, none⟩) hbb).trans d3
            have e4 := (hBr.cell (p := ⟨b, off + t * 6 + 4, none⟩) hbb).trans d4
            have e5 := (hBr.cell (p := ⟨b, off + t * 6 + 5, none⟩) hbb).trans d5
            obtain ⟨nx, hnx⟩ : ∃ nx, nx = nxP (us.map valNode) t := ⟨_, rfl⟩
            rw [← hnx] at e5 hI
            have HNX := hid hnx
            have hnl : nx.length ≤ 10 := by rw [hnx]; exact HED.out.few t (by rw [List.length_map]; exact htq)
            obtain ⟨wb, hwb⟩ : ∃ wb, wb = wr.alloc (.cells #[.string nm, .int .i64 kd, .int .i64 sa, .int .i64 sb, .int .i64 cp, .slice nxo nx.length nxc] 34) := ⟨_, rfl⟩
            have hbB : Below wa.heap.size wa wb := by rw [hwb]; exact Below.allocS hBr _
            have NB : Hid (Bx wb wr.heap.size [.string nm, .int .i64 kd, .int .i64 sa, .int .i64 sb, .int .i64 cp, .slice nxo nx.length nxc]) := by rw [hwb]; exact Bx.new [.string nm, .int .i64 kd, .int .i64 sa, .int .i64 sb, .int .i64 cp, .slice nxo nx.length nxc] _ rfl
            have HWB := hid hwb
            have PB := hid (Pr.out.later hbB)
            have HI := hid (hI.later hbB)
            have HXB := hid (XA.out.later hbB)
            clear hwb hnx d0 d1 d2 d3 d4 d5 hI
            go_wp2_with fail
            rw [← HWB.out]
            clear HWB e0 e1 e2 e3 e4 e5
            refine (has_is wb.heap.size o2 c2 q (t : Int) wb true hql PB.out.in (by simp only [hasB, decide_eq_true_eq]; exact HOD.out.has (by rw [List.length_map]; exact htq))).mono ?_
            rintro e wx ⟨rfl, hwx⟩
            rw [hwx]; clear hwx wx
            have n5 := NB.out.c 5 rfl
            have nz := NB.out.size
            go_wp2
            go_loopw [85] (fun i wr => ∃ s : Nat, i = .int .i64 (s : Int) ∧ s ≤ nx.length ∧ Below wb.heap.size wb wr) (fun i _ => nx.length - (intOf i).toNat)
            case atStart => exact ⟨0, rfl, Nat.zero_le _, Below.refl _ _⟩
            case round =>
              rename World => wc
              obtain ⟨s, rfl, hs, hBc0⟩ := hrel
              have hBc := hbB.trans (hBc0.mono hbB.size)
              clear n5 nz
              by_cases hsn : s < nx.length
              · have hsi : (s : Int) < (nx.length : Int) := by omega
                obtain ⟨nb, noff, rfl, hnb, hnc⟩ := ints_at HI.out hsn
                have hBbc := hBc0
                have cs := (hBbc.cell (p := ⟨nb, noff + s, none⟩) hnb).trans (hnc s hsn)
                have hmem : el nx s ∈ nxP (us.map valNode) t := by rw [← HNX.out]; exact el_mem hsn
                obtain ⟨j, hj, hje⟩ := HED.out.rng t (by rw [List.length_map]; exact htq) _ hmem
                rw [List.length_map] at hj
                have hlt := place_next HOD.out HED.out (k := t) (by rw [List.length_map]; exact htq) hmem
                rw [hje] at cs hlt
                have hji : (j : Int) < (us.length : Int) := by omega
                have c1 := (hBc.cell (p := ⟨pb, j, none⟩) hwa).trans (XA.out.c j (map_elI (by rw [HPL.out]; exact hj)))
                have c2' := (hBc.cell (p := ⟨pb, t, none⟩) hwa).trans (XA.out.c t (map_elI (by rw [HPL.out]; exact htq)))
                rw [HPF.out j hj] at c1
                rw [HPF.out t htq] at c2'
                have hle : decide (((q.idxOf (j : Int) : Nat) : Int) ≤ ((q.idxOf (t : Int) : Nat) : Int)) = false := by simp; omega
                generalize q.idxOf (j : Int) = pj at c1 hle hlt
                generalize q.idxOf (t : Int) = pt at c2' hle hlt
                have hle2 : decide (pj ≤ pt) = false := by simp; omega
                have hle3 : ¬ pj ≤ pt := by omega
                have hle4 : ¬ ((pj : Int) ≤ (pt : Int)) := by omega
                have HBc := hid hBc
                clear hnc hmem hje hlt hBbc hBc
                have HB0 := hid hBc0
                clear hBc0
                go_wp2
                go_quiet (fail)
                go_wp2
                go_roundw
                case rel => exact ⟨s + 1, by go_num, by omega, below_draws HB0.out _⟩
                case measure => simp [intOf]; omega
              · obtain rfl : s = nx.length := by omega
                go_wp2
                go_roundw
                case rel => exact ⟨t + 1, by go_num, by omega, hBc⟩
                case measure => simp [intOf]; omega
          · obtain rfl : t = us.length := by omega
            have hB6 := hBw.trans (hBr.mono hBw.size)
            have D6 := hid (Dr.out.later hBr)
            clear XA hnd HPF Pr Dr hBr
            obtain ⟨⟨Rl, ym⟩, hR⟩ : ∃ Q, meanR (us.map valNode) nd x = Q := ⟨_, rfl⟩
            have HR := hid hR
            have hcon := implMean_is o c us nd x ea wr RM.out (HE.out.later hB6) D6.out.in
            rw [hR] at hcon
            clear hR
            unfold AnsEB at hcon
            (try dsimp only at hcon)
            go_wp2_with fail
            refine hcon.mono ?_
            rintro e w7 ⟨⟨o7, c7, rfl, hF7⟩, hb7⟩
            have hB7 := hB6.trans (hb7.mono hB6.size)
            have D7 := hid (D6.out.later hb7)
            have hcon := specMean_is o c us nd x w7 RM.out D7.out.in
            rw [HR.out] at hcon
            clear hb7 hF7 D6
            unfold AnsEB at hcon
            (try dsimp only at hcon)
            (try dsimp only)
            go_wp2_with fail
            refine hcon.mono ?_
            rintro e w8 ⟨⟨o8, c8, rfl, hF8⟩, hb8⟩
            have hB8 := hB7.trans (hb8.mono hB7.size)
            have D8 := hid (D7.out.later hb8)
            have hcon := implWidest_is o c us ea w8 RM.out (HE.out.later hB8) D8.out.in
            rw [show widR (us.map valNode) = (widP (us.map valNode), true) by rw [widR, if_pos H0.out]] at hcon
            clear hb8 hF8 D7
            (try dsimp only)
            go_wp2_with fail
            refine hcon.mono ?_
            rintro e w9 ⟨rfl, hb9⟩
            have hB9 := hB8.trans (hb9.mono hB8.size)
            have hq9 : ((q.length : Int) == (us.length : Int)) = true := by rw [HQL.out]; simp
            clear hb9 hcon D8
            (try dsimp only)
            cases ym with
            | false =>
              go_wp2
              go_ret
              exact ⟨rfl, hB9⟩
            | true =>
              have hw9 : decide ((Rl.length : Int) ≤ widP (us.map valNode)) = true := by have := mean_wide HR.out; simpa using this
              generalize widP (us.map valNode) = wd at hw9
              go_wp2
              go_ret
              exact ⟨rfl, hB9⟩
end
section
open Go.ChangeShapes Go.WideShapes Go.ChangeAt Go.RowKit Go.Joins Go.Deep

theorem Tryz.own : ownKnob Tryz.prog.godebug = none := by kernel_rfl
theorem Tryz.laidOut : laidOutB Tryz.prog = true := by kernel_rfl
theorem Tryz.cells3 : Tryz.prog.cellsOf 3 = 1 := by kernel_rfl
end
section
open Go.ChangeShapes Go.WideShapes Go.ChangeAt Go.RowKit Go.Joins Go.Deep

theorem addr_none {W : World} {b off : Nat} {spot : Option _} {v : Value} (h : W.cell? ((⟨b, off, spot⟩ : Addr).add 0) = some v) : spot = none := by
  simpa [Addr.add] using World.cell?_spot h
theorem add_none (b off i : Nat) : (⟨b, off, none⟩ : Addr).add i = ⟨b, off + i, none⟩ := by
  by_cases h : i = 0 <;> simp [Addr.add, h]
theorem read_kI {H : Type} {enc : TypeId × Value → H} {W : World} {spare : Nat → Bool} {held : Bool} {fuel : Nat} {c : Value} {x : DataW H × List MemPlace}
    (h : DataW.trod enc Tryz.prog W 0 spare held fuel 26 [c] = some x) : ∃ ao cap zs, c = .slice ao (zs : List Int).length cap ∧ zs.length ≤ 9223372036854775807 ∧ kI.In W.heap.size W ao zs := by
  rcases open_slice1 Tryz.underlying26 Tryz.cells3 h with ⟨hcs, _⟩ | ⟨a, len, cap, m, n, V, D, Pl, hcs, hb, hl, hm, hmm, hx, hel⟩
  · simp at hcs; subst hcs; exact ⟨none, 0, [], rfl, by simp, .inl rfl⟩
  · simp at hcs; subst hcs
    have hlm : len ≤ m := by rw [hmm]; split <;> omega
    refine ⟨some a, cap, (List.range len).map (fun i => intOf (V i)), by simp, by simp; unfold maxLen at hm; omega, ?_⟩
    by_cases h0 : len = 0
    · subst h0; exact .inl (by simp)
    · obtain ⟨b, off, spot⟩ := a
      have hs : spot = none := addr_none (hel 0 (by omega)).1
      subst hs
      refine ints_mk ?_ fun j hj => ?_
      · have := World.block_lt_of_cell? _ _ (hel 0 (by omega)).1
        simpa [Addr.add] using this
      · simp at hj
        obtain ⟨h1, h2⟩ := hel j (by omega)
        obtain ⟨z, e, _, _⟩ := DataW.trod_int Tryz.underlying3 h2
        simp at e
        rw [e, add_none] at h1
        simpa [hj, e, intOf, el] using h1
set_option maxRecDepth 100000 in
theorem read_kI0 {H : Type} {enc : TypeId × Value → H} {W : World} {spare : Nat → Bool} {held : Bool} {rr : Reach} {b0 : Nat} {v : Value} {d : DataW H} {p : List MemPlace}
    (hv : Value.okWide Tryz.prog W rr b0 26 v) (h : DataW.Trod enc Tryz.prog W 0 spare held 26 v d p) :
    ∃ (ao : Option Addr) (cap : Nat) (zs : List Int), v = .slice ao zs.length cap ∧ zs.length ≤ 9223372036854775807 ∧ kI.In W.heap.size W ao zs := by
  obtain ⟨fuel, hf⟩ := h
  have hc : v.cells.toList = [v] := by
    obtain ⟨x, y, z, rfl⟩ : ∃ x y z, v = .slice x y z := okWide_slice Tryz.underlying26 hv
    rfl
  rw [hc] at hf
  exact read_kI hf
end
section
open Go.ChangeShapes Go.WideShapes Go.RowKit Go.Stop

theorem Tryz.gn0 : Tryz.prog.globalNamed "loop.example/g00145/impl.errMany" = some 0 := by kernel_rfl
theorem Tryz.gt0 : (Tryz.prog.globals[0]?).map (·.type) = some 53 := by kernel_rfl
theorem Tryz.gn1 : Tryz.prog.globalNamed "loop.example/g00145/impl.errName" = some 1 := by kernel_rfl
theorem Tryz.gt1 : (Tryz.prog.globals[1]?).map (·.type) = some 53 := by kernel_rfl
theorem Tryz.gn2 : Tryz.prog.globalNamed "loop.example/g00145/impl.errTwice" = some 2 := by kernel_rfl
theorem Tryz.gt2 : (Tryz.prog.globals[2]?).map (·.type) = some 53 := by kernel_rfl
theorem Tryz.gn3 : Tryz.prog.globalNamed "loop.example/g00145/impl.errStage" = some 3 := by kernel_rfl
theorem Tryz.gt3 : (Tryz.prog.globals[3]?).map (·.type) = some 53 := by kernel_rfl
theorem Tryz.gn4 : Tryz.prog.globalNamed "loop.example/g00145/impl.errCap" = some 4 := by kernel_rfl
theorem Tryz.gt4 : (Tryz.prog.globals[4]?).map (·.type) = some 53 := by kernel_rfl
theorem Tryz.gn5 : Tryz.prog.globalNamed "loop.example/g00145/impl.errEdge" = some 5 := by kernel_rfl
theorem Tryz.gt5 : (Tryz.prog.globals[5]?).map (·.type) = some 53 := by kernel_rfl
theorem Tryz.gn6 : Tryz.prog.globalNamed "loop.example/g00145/impl.errCycle" = some 6 := by kernel_rfl
theorem Tryz.gt6 : (Tryz.prog.globals[6]?).map (·.type) = some 53 := by kernel_rfl
theorem Tryz.cellsE : Tryz.prog.cellsOf 177 = 1 := by kernel_rfl
theorem Tryz.cellsS : Tryz.prog.cellsOf 9 = 1 := by kernel_rfl
theorem Tryz.star : "*" ++ "errors.errorString" = "*errors.errorString" := by decide
theorem Tryz.rowE (u : TypeId) (h : Tryz.prog.typeName? 3 u = some "*errors.errorString") : u = 153 :=
  typeName_ptr_named (nm := "errors.errorString") (by rw [Tryz.star]; kernel_rfl) (by kernel_rfl) (by decide) u (by rw [Tryz.star]; exact h)
/-- The variables that are listed. -/
abbrev laidL : List (String × DataW Unit) := [("loop.example/g00145/impl.errMany", Rows.laid_loop_example_g00145_impl_errMany), ("loop.example/g00145/impl.errName", Rows.laid_loop_example_g00145_impl_errName), ("loop.example/g00145/impl.errTwice", Rows.laid_loop_example_g00145_impl_errTwice), ("loop.example/g00145/impl.errStage", Rows.laid_loop_example_g00145_impl_errStage), ("loop.example/g00145/impl.errCap", Rows.laid_loop_example_g00145_impl_errCap), ("loop.example/g00145/impl.errEdge", Rows.laid_loop_example_g00145_impl_errEdge), ("loop.example/g00145/impl.errCycle", Rows.laid_loop_example_g00145_impl_errCycle)]
theorem errs_of_laid {W : World} (h : laidMetH Tryz.prog laidL W) : ∃ ea : Nat → Addr, Errs W ea ∧ ∀ i j, i < 7 → j < 7 → i ≠ j → ea i ≠ ea j := by
  have h0 : laidMet Tryz.prog laidL W := h
  obtain ⟨a0, s0, v0, c0, t0, _⟩ := laid_sentinel h0 Tryz.gn0 Tryz.gt0 Tryz.underlying53 Tryz.rowE Tryz.underlying153 Tryz.underlying177 rfl rfl Tryz.underlying9 Tryz.cellsE Tryz.cellsS
  have d0 : W.cell? ⟨0, 0, none⟩ = some (errV a0) := by simpa using World.var?_cell Tryz.gn0 v0 0
  have h1 := h0.tail
  obtain ⟨a1, s1, v1, c1, t1, _⟩ := laid_sentinel h1 Tryz.gn1 Tryz.gt1 Tryz.underlying53 Tryz.rowE Tryz.underlying153 Tryz.underlying177 rfl rfl Tryz.underlying9 Tryz.cellsE Tryz.cellsS
  have d1 : W.cell? ⟨1, 0, none⟩ = some (errV a1) := by simpa using World.var?_cell Tryz.gn1 v1 0
  have h2 := h1.tail
  obtain ⟨a2, s2, v2, c2, t2, _⟩ := laid_sentinel h2 Tryz.gn2 Tryz.gt2 Tryz.underlying53 Tryz.rowE Tryz.underlying153 Tryz.underlying177 rfl rfl Tryz.underlying9 Tryz.cellsE Tryz.cellsS
  have d2 : W.cell? ⟨2, 0, none⟩ = some (errV a2) := by simpa using World.var?_cell Tryz.gn2 v2 0
  have h3 := h2.tail
  obtain ⟨a3, s3, v3, c3, t3, _⟩ := laid_sentinel h3 Tryz.gn3 Tryz.gt3 Tryz.underlying53 Tryz.rowE Tryz.underlying153 Tryz.underlying177 rfl rfl Tryz.underlying9 Tryz.cellsE Tryz.cellsS
  have d3 : W.cell? ⟨3, 0, none⟩ = some (errV a3) := by simpa using World.var?_cell Tryz.gn3 v3 0
  have h4 := h3.tail
  obtain ⟨a4, s4, v4, c4, t4, _⟩ := laid_sentinel h4 Tryz.gn4 Tryz.gt4 Tryz.underlying53 Tryz.rowE Tryz.underlying153 Tryz.underlying177 rfl rfl Tryz.underlying9 Tryz.cellsE Tryz.cellsS
  have d4 : W.cell? ⟨4, 0, none⟩ = some (errV a4) := by simpa using World.var?_cell Tryz.gn4 v4 0
  have h5 := h4.tail
  obtain ⟨a5, s5, v5, c5, t5, _⟩ := laid_sentinel h5 Tryz.gn5 Tryz.gt5 Tryz.underlying53 Tryz.rowE Tryz.underlying153 Tryz.underlying177 rfl rfl Tryz.underlying9 Tryz.cellsE Tryz.cellsS
  have d5 : W.cell? ⟨5, 0, none⟩ = some (errV a5) := by simpa using World.var?_cell Tryz.gn5 v5 0
  have h6 := h5.tail
  obtain ⟨a6, s6, v6, c6, t6, _⟩ := laid_sentinel h6 Tryz.gn6 Tryz.gt6 Tryz.underlying53 Tryz.rowE Tryz.underlying153 Tryz.underlying177 rfl rfl Tryz.underlying9 Tryz.cellsE Tryz.cellsS
  have d6 : W.cell? ⟨6, 0, none⟩ = some (errV a6) := by simpa using World.var?_cell Tryz.gn6 v6 0
  have hne : ∀ (a b : Addr) (s t : ByteArray) (x y : List UInt8), W.cell? a = some (.string s) → W.cell? b = some (.string t) → s.data.toList = x → t.data.toList = y → x ≠ y → a ≠ b := fun a b s t x y h1 h2 h3 h4 h5 e => by
    subst e
    rw [h1] at h2
    simp at h2
    subst h2
    exact h5 (h3.symm.trans h4)
  refine ⟨fun i => match i with | 0 => a0 | 1 => a1 | 2 => a2 | 3 => a3 | 4 => a4 | 5 => a5 | _ => a6, ⟨fun i hi => ?_, ?_⟩, fun i j hi hj hij => ?_⟩
  · rcases (show i = 0 ∨ i = 1 ∨ i = 2 ∨ i = 3 ∨ i = 4 ∨ i = 5 ∨ i = 6 from by omega) with rfl | rfl | rfl | rfl | rfl | rfl | rfl
    · exact d0
    · exact d1
    · exact d2
    · exact d3
    · exact d4
    · exact d5
    · exact d6
  · have z0 : 0 < W.heap.size := World.block_lt_of_cell? _ _ d0
    have z1 : 1 < W.heap.size := World.block_lt_of_cell? _ _ d1
    have z2 : 2 < W.heap.size := World.block_lt_of_cell? _ _ d2
    have z3 : 3 < W.heap.size := World.block_lt_of_cell? _ _ d3
    have z4 : 4 < W.heap.size := World.block_lt_of_cell? _ _ d4
    have z5 : 5 < W.heap.size := World.block_lt_of_cell? _ _ d5
    have z6 : 6 < W.heap.size := World.block_lt_of_cell? _ _ d6
    omega
  · rcases (show i = 0 ∨ i = 1 ∨ i = 2 ∨ i = 3 ∨ i = 4 ∨ i = 5 ∨ i = 6 from by omega) with rfl | rfl | rfl | rfl | rfl | rfl | rfl <;> rcases (show j = 0 ∨ j = 1 ∨ j = 2 ∨ j = 3 ∨ j = 4 ∨ j = 5 ∨ j = 6 from by omega) with rfl | rfl | rfl | rfl | rfl | rfl | rfl
    · exact absurd rfl hij
    · exact hne _ _ _ _ _ _ c0 c1 t0 t1 (by decide)
    · exact hne _ _ _ _ _ _ c0 c2 t0 t2 (by decide)
    · exact hne _ _ _ _ _ _ c0 c3 t0 t3 (by decide)
    · exact hne _ _ _ _ _ _ c0 c4 t0 t4 (by decide)
    · exact hne _ _ _ _ _ _ c0 c5 t0 t5 (by decide)
    · exact hne _ _ _ _ _ _ c0 c6 t0 t6 (by decide)
    · exact hne _ _ _ _ _ _ c1 c0 t1 t0 (by decide)
    · exact absurd rfl hij
    · exact hne _ _ _ _ _ _ c1 c2 t1 t2 (by decide)
    · exact hne _ _ _ _ _ _ c1 c3 t1 t3 (by decide)
    · exact hne _ _ _ _ _ _ c1 c4 t1 t4 (by decide)
    · exact hne _ _ _ _ _ _ c1 c5 t1 t5 (by decide)
    · exact hne _ _ _ _ _ _ c1 c6 t1 t6 (by decide)
    · exact hne _ _ _ _ _ _ c2 c0 t2 t0 (by decide)
    · exact hne _ _ _ _ _ _ c2 c1 t2 t1 (by decide)
    · exact absurd rfl hij
    · exact hne _ _ _ _ _ _ c2 c3 t2 t3 (by decide)
    · exact hne _ _ _ _ _ _ c2 c4 t2 t4 (by decide)
    · exact hne _ _ _ _ _ _ c2 c5 t2 t5 (by decide)
    · exact hne _ _ _ _ _ _ c2 c6 t2 t6 (by decide)
    · exact hne _ _ _ _ _ _ c3 c0 t3 t0 (by decide)
    · exact hne _ _ _ _ _ _ c3 c1 t3 t1 (by decide)
    · exact hne _ _ _ _ _ _ c3 c2 t3 t2 (by decide)
    · exact absurd rfl hij
    · exact hne _ _ _ _ _ _ c3 c4 t3 t4 (by decide)
    · exact hne _ _ _ _ _ _ c3 c5 t3 t5 (by decide)
    · exact hne _ _ _ _ _ _ c3 c6 t3 t6 (by decide)
    · exact hne _ _ _ _ _ _ c4 c0 t4 t0 (by decide)
    · exact hne _ _ _ _ _ _ c4 c1 t4 t1 (by decide)
    · exact hne _ _ _ _ _ _ c4 c2 t4 t2 (by decide)
    · exact hne _ _ _ _ _ _ c4 c3 t4 t3 (by decide)
    · exact absurd rfl hij
    · exact hne _ _ _ _ _ _ c4 c5 t4 t5 (by decide)
    · exact hne _ _ _ _ _ _ c4 c6 t4 t6 (by decide)
    · exact hne _ _ _ _ _ _ c5 c0 t5 t0 (by decide)
    · exact hne _ _ _ _ _ _ c5 c1 t5 t1 (by decide)
    · exact hne _ _ _ _ _ _ c5 c2 t5 t2 (by decide)
    · exact hne _ _ _ _ _ _ c5 c3 t5 t3 (by decide)
    · exact hne _ _ _ _ _ _ c5 c4 t5 t4 (by decide)
    · exact absurd rfl hij
    · exact hne _ _ _ _ _ _ c5 c6 t5 t6 (by decide)
    · exact hne _ _ _ _ _ _ c6 c0 t6 t0 (by decide)
    · exact hne _ _ _ _ _ _ c6 c1 t6 t1 (by decide)
    · exact hne _ _ _ _ _ _ c6 c2 t6 t2 (by decide)
    · exact hne _ _ _ _ _ _ c6 c3 t6 t3 (by decide)
    · exact hne _ _ _ _ _ _ c6 c4 t6 t4 (by decide)
    · exact hne _ _ _ _ _ _ c6 c5 t6 t5 (by decide)
    · exact absurd rfl hij
noncomputable def low : Nat := (World.holding Tryz.prog default ⟨#[], #[], []⟩).heap.size
/-- A world that has them. -/
noncomputable def laidWorld (os : Os) : World :=
  let w0 := World.holding Tryz.prog os ⟨#[.cells #[.string ⟨#[110, 111, 32, 110, 111, 100, 101, 115, 44, 32, 111, 114, 32, 116, 111, 111, 32, 109, 97, 110, 121]⟩] 177, .cells #[.string ⟨#[116, 104, 101, 32, 110, 97, 109, 101, 32, 105, 115, 32, 110, 111, 110, 101]⟩] 177, .cells #[.string ⟨#[97, 110, 111, 116, 104, 101, 114, 32, 111, 110, 101, 32, 104, 97, 115, 32, 116, 104, 101, 32, 110, 97, 109, 101]⟩] 177, .cells #[.string ⟨#[116, 104, 101, 32, 115, 116, 97, 103, 101, 32, 105, 115, 32, 110, 111, 116, 32, 103, 111, 111, 100]⟩] 177, .cells #[.string ⟨#[116, 104, 101, 32, 99, 97, 112, 32, 105, 115, 32, 116, 111, 111, 32, 115, 109, 97, 108, 108, 32, 111, 114, 32, 116, 111, 111, 32, 103, 114, 101, 97, 116]⟩] 177, .cells #[.string ⟨#[97, 32, 110, 101, 120, 116, 32, 105, 115, 32, 110, 111, 32, 110, 111, 100, 101, 44, 32, 111, 114, 32, 116, 119, 105, 99, 101, 32, 116, 104, 101, 114, 101]⟩] 177, .cells #[.string ⟨#[97, 32, 110, 111, 100, 101, 32, 105, 115, 32, 114, 101, 97, 99, 104, 101, 100, 32, 102, 114, 111, 109, 32, 105, 116, 115, 101, 108, 102]⟩] 177], #[], []⟩
  { w0 with heap := (((((((w0.heap.modify 0 fun | .cells _ t frozen => .cells #[.iface 153 (.pointer (some ⟨low + 0, 0, none⟩))] t frozen | o => o).modify 1 fun | .cells _ t frozen => .cells #[.iface 153 (.pointer (some ⟨low + 1, 0, none⟩))] t frozen | o => o).modify 2 fun | .cells _ t frozen => .cells #[.iface 153 (.pointer (some ⟨low + 2, 0, none⟩))] t frozen | o => o).modify 3 fun | .cells _ t frozen => .cells #[.iface 153 (.pointer (some ⟨low + 3, 0, none⟩))] t frozen | o => o).modify 4 fun | .cells _ t frozen => .cells #[.iface 153 (.pointer (some ⟨low + 4, 0, none⟩))] t frozen | o => o).modify 5 fun | .cells _ t frozen => .cells #[.iface 153 (.pointer (some ⟨low + 5, 0, none⟩))] t frozen | o => o).modify 6 fun | .cells _ t frozen => .cells #[.iface 153 (.pointer (some ⟨low + 6, 0, none⟩))] t frozen | o => o) }
theorem laidWorld_met (os : Os) (args : Array Value) : laidMetH Tryz.prog laidL ((laidWorld os).forCall (fun _ _ => 0) ⟨#[], args, []⟩).memory :=
  laidMet_of_run (ps := [.cell 0 0, .cell low 0, .cell 1 0, .cell (low + 1) 0, .cell 2 0, .cell (low + 2) 0, .cell 3 0, .cell (low + 3) 0, .cell 4 0, .cell (low + 4) 0, .cell 5 0, .cell (low + 5) 0, .cell 6 0, .cell (low + 6) 0]) 8 (by kernel_rfl) (by kernel_rfl) (by kernel_rfl)
end
section
open Go.ChangeShapes Go.WideShapes Go.RowKit Go.Stop

theorem errsB_of_laid {W : World} (h : laidMetH Tryz.prog laidL W) : ∃ ea : Nat → Addr, Errs W ea ∧ ErrB W ea := by
  have h0 : laidMet Tryz.prog laidL W := h
  have h1 := h0.tail
  have h2 := h1.tail
  have h3 := h2.tail
  have h4 := h3.tail
  have h5 := h4.tail
  obtain ⟨a0, a1, s0, s1, b0, b1, y0, y1, v0, v1, c0, t0, _, c1, t1, _, _, k0, k1⟩ := laid_sentinels2 h0 Tryz.gn0 Tryz.gt0 Tryz.gn1 Tryz.gt1 Tryz.underlying53 Tryz.rowE Tryz.underlying153 Tryz.underlying177 rfl rfl Tryz.underlying9 Tryz.cellsE Tryz.cellsS
  obtain ⟨a2, a3, s2, s3, b2, b3, y2, y3, v2, v3, c2, t2, _, c3, t3, _, _, k2, k3⟩ := laid_sentinels2 h2 Tryz.gn2 Tryz.gt2 Tryz.gn3 Tryz.gt3 Tryz.underlying53 Tryz.rowE Tryz.underlying153 Tryz.underlying177 rfl rfl Tryz.underlying9 Tryz.cellsE Tryz.cellsS
  obtain ⟨a4, a5, s4, s5, b4, b5, y4, y5, v4, v5, c4, t4, _, c5, t5, _, _, k4, k5⟩ := laid_sentinels2 h4 Tryz.gn4 Tryz.gt4 Tryz.gn5 Tryz.gt5 Tryz.underlying53 Tryz.rowE Tryz.underlying153 Tryz.underlying177 rfl rfl Tryz.underlying9 Tryz.cellsE Tryz.cellsS
  obtain ⟨_, a6, _, s6, _, b6, _, y6, _, v6, _, _, _, c6, t6, _, _, _, k6⟩ := laid_sentinels2 h5 Tryz.gn5 Tryz.gt5 Tryz.gn6 Tryz.gt6 Tryz.underlying53 Tryz.rowE Tryz.underlying153 Tryz.underlying177 rfl rfl Tryz.underlying9 Tryz.cellsE Tryz.cellsS
  have d0 : W.cell? ⟨0, 0, none⟩ = some (errV a0) := by simpa using World.var?_cell Tryz.gn0 v0 0
  have d1 : W.cell? ⟨1, 0, none⟩ = some (errV a1) := by simpa using World.var?_cell Tryz.gn1 v1 0
  have d2 : W.cell? ⟨2, 0, none⟩ = some (errV a2) := by simpa using World.var?_cell Tryz.gn2 v2 0
  have d3 : W.cell? ⟨3, 0, none⟩ = some (errV a3) := by simpa using World.var?_cell Tryz.gn3 v3 0
  have d4 : W.cell? ⟨4, 0, none⟩ = some (errV a4) := by simpa using World.var?_cell Tryz.gn4 v4 0
  have d5 : W.cell? ⟨5, 0, none⟩ = some (errV a5) := by simpa using World.var?_cell Tryz.gn5 v5 0
  have d6 : W.cell? ⟨6, 0, none⟩ = some (errV a6) := by simpa using World.var?_cell Tryz.gn6 v6 0
  have hne : ∀ (a b : Addr) (s t : ByteArray) (x y : List UInt8), W.cell? a = some (.string s) → W.cell? b = some (.string t) → s.data.toList = x → t.data.toList = y → x ≠ y → a ≠ b := fun a b s t x y h1 h2 h3 h4 h5 e => by
    subst e
    rw [h1] at h2
    simp at h2
    subst h2
    exact h5 (h3.symm.trans h4)
  refine ⟨fun i => match i with | 0 => a0 | 1 => a1 | 2 => a2 | 3 => a3 | 4 => a4 | 5 => a5 | _ => a6, ⟨fun i hi => ?_, ?_⟩, ⟨fun i hi => ?_, fun i j hi hj hij => ?_⟩⟩
  · rcases (show i = 0 ∨ i = 1 ∨ i = 2 ∨ i = 3 ∨ i = 4 ∨ i = 5 ∨ i = 6 from by omega) with rfl | rfl | rfl | rfl | rfl | rfl | rfl
    · exact d0
    · exact d1
    · exact d2
    · exact d3
    · exact d4
    · exact d5
    · exact d6
  · have z0 : 0 < W.heap.size := World.block_lt_of_cell? _ _ d0
    have z1 : 1 < W.heap.size := World.block_lt_of_cell? _ _ d1
    have z2 : 2 < W.heap.size := World.block_lt_of_cell? _ _ d2
    have z3 : 3 < W.heap.size := World.block_lt_of_cell? _ _ d3
    have z4 : 4 < W.heap.size := World.block_lt_of_cell? _ _ d4
    have z5 : 5 < W.heap.size := World.block_lt_of_cell? _ _ d5
    have z6 : 6 < W.heap.size := World.block_lt_of_cell? _ _ d6
    omega
  · rcases (show i = 0 ∨ i = 1 ∨ i = 2 ∨ i = 3 ∨ i = 4 ∨ i = 5 ∨ i = 6 from by omega) with rfl | rfl | rfl | rfl | rfl | rfl | rfl
    · exact ⟨_, _, k0⟩
    · exact ⟨_, _, k1⟩
    · exact ⟨_, _, k2⟩
    · exact ⟨_, _, k3⟩
    · exact ⟨_, _, k4⟩
    · exact ⟨_, _, k5⟩
    · exact ⟨_, _, k6⟩
  · rcases (show i = 0 ∨ i = 1 ∨ i = 2 ∨ i = 3 ∨ i = 4 ∨ i = 5 ∨ i = 6 from by omega) with rfl | rfl | rfl | rfl | rfl | rfl | rfl <;> rcases (show j = 0 ∨ j = 1 ∨ j = 2 ∨ j = 3 ∨ j = 4 ∨ j = 5 ∨ j = 6 from by omega) with rfl | rfl | rfl | rfl | rfl | rfl | rfl
    · exact absurd rfl hij
    · exact hne _ _ _ _ _ _ c0 c1 t0 t1 (by decide)
    · exact hne _ _ _ _ _ _ c0 c2 t0 t2 (by decide)
    · exact hne _ _ _ _ _ _ c0 c3 t0 t3 (by decide)
    · exact hne _ _ _ _ _ _ c0 c4 t0 t4 (by decide)
    · exact hne _ _ _ _ _ _ c0 c5 t0 t5 (by decide)
    · exact hne _ _ _ _ _ _ c0 c6 t0 t6 (by decide)
    · exact hne _ _ _ _ _ _ c1 c0 t1 t0 (by decide)
    · exact absurd rfl hij
    · exact hne _ _ _ _ _ _ c1 c2 t1 t2 (by decide)
    · exact hne _ _ _ _ _ _ c1 c3 t1 t3 (by decide)
    · exact hne _ _ _ _ _ _ c1 c4 t1 t4 (by decide)
    · exact hne _ _ _ _ _ _ c1 c5 t1 t5 (by decide)
    · exact hne _ _ _ _ _ _ c1 c6 t1 t6 (by decide)
    · exact hne _ _ _ _ _ _ c2 c0 t2 t0 (by decide)
    · exact hne _ _ _ _ _ _ c2 c1 t2 t1 (by decide)
    · exact absurd rfl hij
    · exact hne _ _ _ _ _ _ c2 c3 t2 t3 (by decide)
    · exact hne _ _ _ _ _ _ c2 c4 t2 t4 (by decide)
    · exact hne _ _ _ _ _ _ c2 c5 t2 t5 (by decide)
    · exact hne _ _ _ _ _ _ c2 c6 t2 t6 (by decide)
    · exact hne _ _ _ _ _ _ c3 c0 t3 t0 (by decide)
    · exact hne _ _ _ _ _ _ c3 c1 t3 t1 (by decide)
    · exact hne _ _ _ _ _ _ c3 c2 t3 t2 (by decide)
    · exact absurd rfl hij
    · exact hne _ _ _ _ _ _ c3 c4 t3 t4 (by decide)
    · exact hne _ _ _ _ _ _ c3 c5 t3 t5 (by decide)
    · exact hne _ _ _ _ _ _ c3 c6 t3 t6 (by decide)
    · exact hne _ _ _ _ _ _ c4 c0 t4 t0 (by decide)
    · exact hne _ _ _ _ _ _ c4 c1 t4 t1 (by decide)
    · exact hne _ _ _ _ _ _ c4 c2 t4 t2 (by decide)
    · exact hne _ _ _ _ _ _ c4 c3 t4 t3 (by decide)
    · exact absurd rfl hij
    · exact hne _ _ _ _ _ _ c4 c5 t4 t5 (by decide)
    · exact hne _ _ _ _ _ _ c4 c6 t4 t6 (by decide)
    · exact hne _ _ _ _ _ _ c5 c0 t5 t0 (by decide)
    · exact hne _ _ _ _ _ _ c5 c1 t5 t1 (by decide)
    · exact hne _ _ _ _ _ _ c5 c2 t5 t2 (by decide)
    · exact hne _ _ _ _ _ _ c5 c3 t5 t3 (by decide)
    · exact hne _ _ _ _ _ _ c5 c4 t5 t4 (by decide)
    · exact absurd rfl hij
    · exact hne _ _ _ _ _ _ c5 c6 t5 t6 (by decide)
    · exact hne _ _ _ _ _ _ c6 c0 t6 t0 (by decide)
    · exact hne _ _ _ _ _ _ c6 c1 t6 t1 (by decide)
    · exact hne _ _ _ _ _ _ c6 c2 t6 t2 (by decide)
    · exact hne _ _ _ _ _ _ c6 c3 t6 t3 (by decide)
    · exact hne _ _ _ _ _ _ c6 c4 t6 t4 (by decide)
    · exact hne _ _ _ _ _ _ c6 c5 t6 t5 (by decide)
    · exact absurd rfl hij
end
end Go.Proofs.YtebnapgcobcilaaGreatDoor
