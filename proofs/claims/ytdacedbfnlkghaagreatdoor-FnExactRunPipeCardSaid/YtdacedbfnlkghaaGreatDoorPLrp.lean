
/- The law of RunPipe: it returns true. No conditions but those written. -/
import Derived.Test.YtdacedbfnlkghaaGreatDoorPTqt
import Derived.Test.YtdacedbfnlkghaaGreatDoorPSlpRab
namespace Go.Proofs.YtdacedbfnlkghaaGreatDoor
open Go.RowKit

set_option maxHeartbeats 2000000 in
theorem lawRunPipe_any (s : ByteArray) (ea : Nat → Addr) (w : World) (hV : Env w.heap.size w ea) :
  Calls Tryz.prog 4 #[.string s] w fun e w' => e = .returned (.bool true) ∧ Below w.heap.size w w' := by
 by_cases hbig : 1048576 < s.size
 ·have hbig' : decide (1048576 < (s.size : Int)) = true := by simp; omega
  go_enter Tryz.func4, Tryz.ntmps4;go_wp2;go_ret;exact ⟨rfl, Below.refl _ _⟩
 have hbig' : decide (1048576 < (s.size : Int)) = false := by simp; omega
 obtain ⟨T, hT⟩ : ∃ T, T = tx (catL (linesA st0 (linesR s).1).2) := ⟨_, rfl⟩;have HSP : Hid (∀ W, Calls Tryz.prog 14 #[.string s] W fun e W' => e = .returned (.string T) ∧ Below W.heap.size W W') := fun W => by rw [hT]; exact specRunPipe_is s W (by omega)
 have HIM : Hid (∀ W, Below w.heap.size w W → Calls Tryz.prog 13 #[.string s] W fun e W' => e = .returned (.string T) ∧ Below W.heap.size W W') := fun W hW => by rw [hT]; exact runPipe_is w.heap.size s W ea (by omega) (hV.step hW) hW.size
 have hTT : (T.toList != T.toList) = false := by simp
 clear hT hV;go_enter Tryz.func4, Tryz.ntmps4;go_wp2_with fail;refine (HSP.out _).mono ?_;rintro e w1 ⟨rfl, hb1⟩;have HB1 := hid hb1;clear hb1;go_wp2_with fail;refine (HIM.out _ HB1.out).mono ?_;rintro e w2 ⟨rfl, hb2⟩;have HB2 := hid (HB1.out.trans (hb2.mono HB1.out.size));clear hb2;go_wp2;go_ret;exact ⟨rfl, HB2.out⟩
end Go.Proofs.YtdacedbfnlkghaaGreatDoor
