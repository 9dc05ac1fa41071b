
/- How a node that comes in is read. No conditions but those written. -/
import Derived.Test.YtekadjjofcicaaaDoorRab
import Derived.Test.YtekadjjofcicaaaDoorNd
namespace Go.Proofs.YtekadjjofcicaaaDoor
open Go.ChangeShapes Go.WideShapes Go.ChangeAt Go.RowKit Go.Joins Go.Deep

theorem Tryd.cellsNode : Tryd.prog.cellsOf 26 = 6 := by kernel_rfl
theorem Tryd.cellsStage : Tryd.prog.cellsOf 23 = 3 := by kernel_rfl
theorem Tryd.cellsText : Tryd.prog.cellsOf 9 = 1 := by kernel_rfl
theorem Tryd.cellsRow : Tryd.prog.cellsOf 24 = 1 := by kernel_rfl
theorem array6 {cs : Array Value} (h : cs.size = 6) : ∃ c0 c1 c2 c3 c4 c5, cs = #[c0, c1, c2, c3, c4, c5] := by
  obtain ⟨l⟩ := cs
  match l, h with
  | [c0, c1, c2, c3, c4, c5], _ => exact ⟨c0, c1, c2, c3, c4, c5, rfl⟩
set_option maxRecDepth 100000 in
theorem read_Node {H : Type} {enc : TypeId × Value → H} {W : World} {spare : Nat → Bool} {held : Bool} {rr : Reach} {b0 : Nat} {v : Value} {d : DataW H} {p : List MemPlace}
    (hv : Value.okWide Tryd.prog W rr b0 26 v) (h : DataW.Trod enc Tryd.prog W 0 spare held 26 v d p) :
    ∃ (nm : ByteArray) (kd sa sb cp : Int) (nxo : Option Addr) (nxc : Nat) (nx : List Int), v = .agg #[.string nm, .int .i64 kd, .int .i64 sa, .int .i64 sb, .int .i64 cp, .slice nxo nx.length nxc] ∧ nm.size ≤ 9223372036854775807 ∧ nx.length ≤ 9223372036854775807 ∧ InNode W.heap.size W nxo nx := by
  obtain ⟨cs, rfl, hsz⟩ := okWide_struct Tryd.underlying26 hv
  obtain ⟨c0, c1, c2, c3, c4, c5, rfl⟩ := array6 (hsz.trans Tryd.cellsNode)
  obtain ⟨fuel, hf⟩ := h
  obtain ⟨xs, n, _, hx, hl, hlen, hfs⟩ := DataW.trod_struct Tryd.underlying26 hf
  match xs, hlen with
  | [y0, y1, y2, y3], _ =>
    have g0 := hfs 0 _ rfl
    have g1 := hfs 1 _ rfl
    have g2 := hfs 2 _ rfl
    have g3 := hfs 3 _ rfl
    simp [Value.cells, Tryd.cells3, Tryd.cellsText, Tryd.cellsRow, Tryd.cellsStage] at g0 g1 g2 g3
    obtain ⟨s0, p0, _, hs0⟩ := DataW.trod_string Tryd.underlying9 g0
    obtain ⟨ys, k2, _, _, _, hyl, hf2⟩ := DataW.trod_struct Tryd.underlying23 g1
    match ys, hyl with
    | [w0, w1, w2], _ =>
      have q0 := hf2 0 _ rfl
      have q1 := hf2 1 _ rfl
      have q2 := hf2 2 _ rfl
      simp [Tryd.cells3] at q0 q1 q2
      obtain ⟨z0, r0, _, _⟩ := DataW.trod_int Tryd.underlying3 q0
      obtain ⟨z1, r1, _, _⟩ := DataW.trod_int Tryd.underlying3 q1
      obtain ⟨z2, r2, _, _⟩ := DataW.trod_int Tryd.underlying3 q2
      obtain ⟨z3, r3, _, _⟩ := DataW.trod_int Tryd.underlying3 g2
      obtain ⟨fo, fc, f, p6, hlf, hF⟩ := read_kI g3
      simp at p0 r0 r1 r2 r3
      subst p0 r0 r1 r2 r3 p6
      exact ⟨s0, z0, z1, z2, z3, fo, fc, f, rfl, by unfold maxLen at hs0; omega, hlf, hF⟩
end Go.Proofs.YtekadjjofcicaaaDoor
