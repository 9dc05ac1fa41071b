
/- Stop: the program's and the specification's. No conditions but those written. -/
import Derived.Test.YtpbgkkemaioidaaODe
import Derived.Test.YtpbgkkemaioidaaOCb
import Derived.Test.YtpbgkkemaioidaaOCc
namespace Go.Proofs.Ytpbgkkemaioidaa.Old
open Go.RowKit

/-- A clock that is box p's, and where a result is to be laid. -/
structure Boxes (W : World) (p : Nat) (now sq : Int) (v : Value) : Prop where
  b0 : W.cell? ⟨p, 0, none⟩ = some (.int .i64 now)
  b1 : W.cell? ⟨p, 1, none⟩ = some (.int .i64 sq)
  b2 : W.cell? ⟨p, 2, none⟩ = some v
  bf0 : W.frozen? ⟨p, 0, none⟩ = false
  bf1 : W.frozen? ⟨p, 1, none⟩ = false
  bf2 : W.frozen? ⟨p, 2, none⟩ = false
  r0 : W.cell? ⟨p + 1, 0, none⟩ = some (.int .i64 0)
  r1 : W.cell? ⟨p + 1, 1, none⟩ = some (.int .i64 0)
  r2 : W.cell? ⟨p + 1, 2, none⟩ = some (.slice none 0 0)
  f0 : W.frozen? ⟨p + 1, 0, none⟩ = false
  f1 : W.frozen? ⟨p + 1, 1, none⟩ = false
  f2 : W.frozen? ⟨p + 1, 2, none⟩ = false
  lt : p + 1 < W.heap.size
theorem Boxes.new (w : World) (now sq : Int) (v : Value) : Boxes ((w.alloc (.cells #[.int .i64 now, .int .i64 sq, v] 25)).alloc (.cells #[.int .i64 0, .int .i64 0, .slice none 0 0] 25)) w.heap.size now sq v := by
  constructor <;> simp [go_sem]
theorem Boxes.later {W W' : World} {p : Nat} {now sq : Int} {v : Value} (h : Boxes W p now sq v) (hb : Below W.heap.size W W') : Boxes W' p now sq v := by
  have l0 : p < W.heap.size := by have := h.lt; omega
  have l1 := h.lt
  exact ⟨(hb.cell (p := ⟨p, 0, none⟩) l0).trans h.b0, (hb.cell (p := ⟨p, 1, none⟩) l0).trans h.b1, (hb.cell (p := ⟨p, 2, none⟩) l0).trans h.b2, (hb.frozen (p := ⟨p, 0, none⟩) l0).trans h.bf0, (hb.frozen (p := ⟨p, 1, none⟩) l0).trans h.bf1, (hb.frozen (p := ⟨p, 2, none⟩) l0).trans h.bf2,
    (hb.cell (p := ⟨p + 1, 0, none⟩) l1).trans h.r0, (hb.cell (p := ⟨p + 1, 1, none⟩) l1).trans h.r1, (hb.cell (p := ⟨p + 1, 2, none⟩) l1).trans h.r2, (hb.frozen (p := ⟨p + 1, 0, none⟩) l1).trans h.f0, (hb.frozen (p := ⟨p + 1, 1, none⟩) l1).trans h.f1, (hb.frozen (p := ⟨p + 1, 2, none⟩) l1).trans h.f2, Nat.lt_of_lt_of_le l1 hb.size⟩
theorem Boxes.drew {W : World} {p : Nat} {now sq : Int} {v : Value} (h : Boxes W p now sq v) : Boxes W.drew p now sq v := ⟨h.b0, h.b1, h.b2, h.bf0, h.bf1, h.bf2, h.r0, h.r1, h.r2, h.f0, h.f1, h.f2, h.lt⟩

end Go.Proofs.Ytpbgkkemaioidaa.Old
