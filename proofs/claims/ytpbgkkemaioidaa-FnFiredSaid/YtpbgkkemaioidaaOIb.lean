
/- A clock with a timer more: the program's. No conditions but those written. -/
import Derived.Test.YtpbgkkemaioidaaOIa
import Derived.Test.YtpbgkkemaioidaaOHg
import Derived.Test.YtpbgkkemaioidaaOPb
import Derived.Laws.BitsLemmas
namespace Go.Proofs.Ytpbgkkemaioidaa.Old
open Go.RowKit

theorem Boxes.alloc {W : World} {p : Nat} {now sq : Int} {v : Value} (h : Boxes W p now sq v) (o : Obj) : Boxes (W.alloc o) p now sq v := h.later (below1 _ _)
theorem Below.allocS {a w : World} (h : Below a.heap.size a w) (o : Obj) : Below a.heap.size a (w.alloc o) := h.alloc h.size o
/-- Block N is a zero clock, and may be written. -/
structure Zero3 (Y : World) (N : Nat) : Prop where
  z0 : Y.cell? ⟨N, 0, none⟩ = some (.int .i64 0)
  z1 : Y.cell? ⟨N, 1, none⟩ = some (.int .i64 0)
  z2 : Y.cell? ⟨N, 2, none⟩ = some (.slice none 0 0)
  f0 : Y.frozen? ⟨N, 0, none⟩ = false
  f1 : Y.frozen? ⟨N, 1, none⟩ = false
  f2 : Y.frozen? ⟨N, 2, none⟩ = false
  lt : N < Y.heap.size
theorem Zero3.later {Y Y' : World} {N : Nat} (h : Zero3 Y N) (hb : Below Y.heap.size Y Y') : Zero3 Y' N :=
  ⟨(hb.cell (p := ⟨N, 0, none⟩) h.lt).trans h.z0, (hb.cell (p := ⟨N, 1, none⟩) h.lt).trans h.z1, (hb.cell (p := ⟨N, 2, none⟩) h.lt).trans h.z2, (hb.frozen (p := ⟨N, 0, none⟩) h.lt).trans h.f0, (hb.frozen (p := ⟨N, 1, none⟩) h.lt).trans h.f1, (hb.frozen (p := ⟨N, 2, none⟩) h.lt).trans h.f2, Nat.lt_of_lt_of_le h.lt hb.size⟩
theorem Zero3.new (X : World) : Zero3 (X.alloc (.cells #[.int .i64 0, .int .i64 0, .slice none 0 0] 25)) X.heap.size := by
  constructor <;> simp [go_sem]
theorem Zero3.drew {Y : World} {N : Nat} (h : Zero3 Y N) : Zero3 Y.drew N := ⟨h.z0, h.z1, h.z2, h.f0, h.f1, h.f2, h.lt⟩
/-- Block N holds a clock whose timers may be written. -/
structure Nx (Y : World) (N : Nat) (now sq : Int) (v : Value) : Prop where
  n0 : Y.cell? ⟨N, 0, none⟩ = some (.int .i64 now)
  n1 : Y.cell? ⟨N, 1, none⟩ = some (.int .i64 sq)
  n2 : Y.cell? ⟨N, 2, none⟩ = some v
  nf : Y.frozen? ⟨N, 2, none⟩ = false
  lt : N < Y.heap.size
theorem Nx.later {Y Y' : World} {N : Nat} {now sq : Int} {v : Value} (h : Nx Y N now sq v) (hb : Below Y.heap.size Y Y') : Nx Y' N now sq v :=
  ⟨(hb.cell (p := ⟨N, 0, none⟩) h.lt).trans h.n0, (hb.cell (p := ⟨N, 1, none⟩) h.lt).trans h.n1, (hb.cell (p := ⟨N, 2, none⟩) h.lt).trans h.n2, (hb.frozen (p := ⟨N, 2, none⟩) h.lt).trans h.nf, Nat.lt_of_lt_of_le h.lt hb.size⟩
theorem Nx.new (X : World) (now sq : Int) (v : Value) : Nx (X.alloc (.cells #[.int .i64 now, .int .i64 sq, v] 25)) X.heap.size now sq v := by
  constructor <;> simp [go_sem]
theorem Zero3.put {Y : World} {N : Nat} (h : Zero3 Y N) (now sq : Int) (v : Value) : Nx (((Y.setCell ⟨N, 0, none⟩ (.int .i64 now)).setCell ⟨N, 1, none⟩ (.int .i64 sq)).setCell ⟨N, 2, none⟩ v) N now sq v := by
  obtain ⟨b0, b1, b2, f0, f1, f2, l1⟩ := h
  constructor <;> simp [go_sem, b0, b1, b2, f2, l1]
theorem split_n (now sq : Int) (ao : Option Addr) (n cap : Nat) (ts : List T3) (time : Int) (S : List Nat) (w : World) (hn : ts.length = n) (hl : n ≤ 1040000) (hz : TimersIn w.heap.size w ao ts) (hp : S.Perm (List.range n)) (hs : S.Pairwise (fun a b => ltT ts a b = true)) :
    Calls Try.prog 16 #[.agg #[.int .i64 now, .int .i64 sq, .slice ao n cap], .int .i64 time] w fun e w' => (∃ vd vl, e = .returned (.tuple #[vd, vl]) ∧ OwnV w.heap.size w' vd (dueL ts time S) ∧ OwnV w.heap.size w' vl (latL ts time S)) ∧ Below w.heap.size w w' := by
  subst hn; exact split_any now sq ao cap ts time S w hl hz hp hs
theorem box_S {W : World} {p : Nat} {now sq : Int} {v : Value} (h : Boxes W p now sq v) : W.drew.cell? ⟨p, 0, none⟩ = some (.int .i64 now) ∧ W.drew.cell? ⟨p, 1, none⟩ = some (.int .i64 sq) := ⟨h.b0, h.b1⟩

end Go.Proofs.Ytpbgkkemaioidaa.Old
