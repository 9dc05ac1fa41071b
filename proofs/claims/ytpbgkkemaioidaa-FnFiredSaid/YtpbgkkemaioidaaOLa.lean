
/- Contracts of both LaterBy, and of the law upon them. No conditions but those written. -/
import Derived.Test.YtpbgkkemaioidaaRows
import Derived.WalkKit
import Derived.WalkSpells
namespace Go.Proofs.Ytpbgkkemaioidaa.Old
open Go.RowKit

theorem ret_bool {a b : Bool} (h : a = b) : Ending.returned (.bool a) = .returned (.bool b) := by rw [h]
theorem ret_int {k : IntKind} {a b : Int} (h : a = b) : Ending.returned (.int k a) = .returned (.int k b) := by rw [h]
theorem below1 (w : World) (o : Obj) : Below w.heap.size w (w.alloc o) := (Below.refl _ _).alloc (Nat.le_refl _) _
theorem below2 (w : World) (o p : Obj) : Below w.heap.size w ((w.alloc o).alloc p) := (below1 w o).alloc (by simp) _
theorem below3 (w : World) (o p q : Obj) : Below w.heap.size w (((w.alloc o).alloc p).alloc q) := (below2 w o p).alloc (by simp; omega) _

/-- An int of 64 bits. -/
def I64 (z : Int) : Prop := -9223372036854775808 ≤ z ∧ z ≤ 9223372036854775807
/-- LaterBy. -/
def laterI (now d : Int) : Int := if d < 0 then now else if now > 9223372036854775807 - d then 9223372036854775807 else now + d
theorem laterI_in {now d : Int} (h1 : I64 now) (h2 : I64 d) : I64 (laterI now d) := by
  unfold laterI; unfold I64 at *
  split
  · exact h1
  · split <;> omega
theorem laterI_ge {now d : Int} (h1 : I64 now) : now ≤ laterI now d := by
  unfold laterI; unfold I64 at *
  split
  · omega
  · split <;> omega

set_option maxHeartbeats 400000 in
theorem specLater_any (now d : Int) (w : World) (h1 : I64 now) (h2 : I64 d) :
    Calls Try.prog 37 #[.int .i64 now, .int .i64 d] w fun e w' => e = .returned (.int .i64 (laterI now d)) ∧ w' = w := by
  unfold I64 at h1 h2
  obtain ⟨h1a, h1b⟩ := h1
  obtain ⟨h2a, h2b⟩ := h2
  by_cases h : d < 0
  · have HE : Hid (laterI now d = now) := by simp [Hid, laterI, h]
    go_enter Try.func37, Try.ntmps37
    go_wp2
    go_ret
    exact ⟨ret_int HE.out.symm, rfl⟩
  · by_cases h' : now > 9223372036854775807 - d
    · have HE : Hid (laterI now d = 9223372036854775807) := by simp only [Hid, laterI]; rw [if_neg h, if_pos h']
      go_enter Try.func37, Try.ntmps37
      go_wp2
      go_ret
      exact ⟨ret_int HE.out.symm, rfl⟩
    · have HE : Hid (laterI now d = now + d) := by simp only [Hid, laterI]; rw [if_neg h, if_neg h']
      go_enter Try.func37, Try.ntmps37
      go_wp2
      go_ret
      exact ⟨ret_int HE.out.symm, rfl⟩

end Go.Proofs.Ytpbgkkemaioidaa.Old
