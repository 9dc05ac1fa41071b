
/- Nodes and rows of them: sizes, copies, comparisons. No conditions but those written. -/
import Derived.Test.YtekadjjofcicaaaDoorIa
import Derived.Test.YtekadjjofcicaaaDoorBx
import Derived.Test.YtekadjjofcicaaaDoorDp
namespace Go.Proofs.YtekadjjofcicaaaDoor
open Go.RowKit

theorem set_far {xs : List Value} {p q : Nat} {u : Value} (h : p ≠ q) : (xs.set p u)[q]? = xs[q]? := by rw [List.getElem?_set, if_neg h]
theorem set_at {xs : List Value} {p : Nat} {u : Value} (h : p < xs.length) : (xs.set p u)[p]? = some u := by rw [List.getElem?_set, if_pos rfl, if_pos h]
theorem Kind.Fresh.setOff {α : Type} {K : Kind α} {lo hi : Nat} {W : World} {qo : Option Addr} {qc : Nat} {q : List α} (h : K.Fresh lo hi W qo qc q) {a : Addr} (ha : a.block < lo ∨ hi ≤ a.block) (u : Value) : K.Fresh lo hi (W.setCell a u) qo qc q := h.keep fun k h1 h2 _ => Below.heap_setCell W a u k (by omega)
theorem Kind.Fresh.notNew {α : Type} {K : Kind α} {lo hi : Nat} {W : World} {qo : Option Addr} {qc : Nat} {q : List α} (h : K.Fresh lo hi W qo qc q) {g : Nat} (e : eff qo q.length = some ⟨g, 0, none⟩) : W.heap.size ≠ g := by
  rcases h with rfl | ⟨g2, e2, hg, ho⟩
  · simp [eff] at e
  · unfold eff at e
    split at e
    · cases e
    · rw [e2] at e; simp at e; subst e
      have := (owns_lt ho).2; omega
/-- What lies behind a Node. -/
def InNode (n : Nat) (W : World) (nxo : Option Addr) (nx : List (Int)) : Prop := kI.In n W nxo nx
/-- What lies behind a Node, in memory of its own. -/
def FrNode (lo hi : Nat) (W : World) (nxo : Option Addr) (nxc : Nat) (nx : List (Int)) : Prop := kI.Fresh lo hi W nxo nxc nx
theorem InNode.later {W W' : World} {nxo : Option Addr} {nx : List (Int)} (h : InNode W.heap.size W nxo nx) (hb : Below W.heap.size W W') : InNode W'.heap.size W' nxo nx := Kind.In.later h hb
theorem InNode.below {n : Nat} {W W' : World} {nxo : Option Addr} {nx : List (Int)} (h : InNode n W nxo nx) (hb : Below n W W') : InNode n W' nxo nx := Kind.In.below h hb
theorem FrNode.in {lo hi : Nat} {W : World} {nxo : Option Addr} {nxc : Nat} {nx : List (Int)} (h : FrNode lo hi W nxo nxc nx) : InNode W.heap.size W nxo nx := Kind.Fresh.in h
theorem FrNode.later {lo hi : Nat} {W W' : World} {nxo : Option Addr} {nxc : Nat} {nx : List (Int)} (h : FrNode lo hi W nxo nxc nx) (hb : Below W.heap.size W W') : FrNode lo hi W' nxo nxc nx := Kind.Fresh.later h hb
theorem FrNode.keep {lo hi : Nat} {W W' : World} {nxo : Option Addr} {nxc : Nat} {nx : List (Int)} (h : FrNode lo hi W nxo nxc nx) (hk : ∀ k, lo ≤ k → k < hi → k < W.heap.size → W'.heap[k]? = W.heap[k]?) : FrNode lo hi W' nxo nxc nx := Kind.Fresh.keep h hk
theorem FrNode.wide {lo hi lo' hi' : Nat} {W : World} {nxo : Option Addr} {nxc : Nat} {nx : List (Int)} (h : FrNode lo hi W nxo nxc nx) (h1 : lo' ≤ lo) (h2 : hi ≤ hi') : FrNode lo' hi' W nxo nxc nx := Kind.Fresh.wide h h1 h2
theorem FrNode.low {lo hi : Nat} {W : World} {nxo : Option Addr} {nxc : Nat} {nx : List (Int)} (h : FrNode lo hi W nxo nxc nx) {hi' : Nat} (h2 : W.heap.size ≤ hi') : FrNode lo hi' W nxo nxc nx := Kind.Fresh.low h h2
theorem FrNode.setBelow {lo hi : Nat} {W : World} {nxo : Option Addr} {nxc : Nat} {nx : List (Int)} (h : FrNode lo hi W nxo nxc nx) {a : Addr} (ha : a.block < lo) (u : Value) : FrNode lo hi (W.setCell a u) nxo nxc nx := Kind.Fresh.setBelow h ha u
theorem FrNode.setAbove {lo hi : Nat} {W : World} {nxo : Option Addr} {nxc : Nat} {nx : List (Int)} (h : FrNode lo hi W nxo nxc nx) {a : Addr} (ha : hi ≤ a.block) (u : Value) : FrNode lo hi (W.setCell a u) nxo nxc nx := Kind.Fresh.setAbove h ha u
theorem FrNode.setOff {lo hi : Nat} {W : World} {nxo : Option Addr} {nxc : Nat} {nx : List (Int)} (h : FrNode lo hi W nxo nxc nx) {a : Addr} (ha : a.block < lo ∨ hi ≤ a.block) (u : Value) : FrNode lo hi (W.setCell a u) nxo nxc nx := Kind.Fresh.setOff h ha u
theorem FrNode.between' {lo hi lo' hi' : Nat} {W W' : World} {nxo : Option Addr} {nxc : Nat} {nx : List (Int)} (h : FrNode lo hi W nxo nxc nx) (hb : Between lo' hi' W W') (hd : hi ≤ lo' ∨ hi' ≤ lo) : FrNode lo hi W' nxo nxc nx := Kind.Fresh.between' h hb hd
set_option maxHeartbeats 400000 in
theorem toStg_any (x1 x2 x3 : Int) (w : World) :
    Calls Tryd.prog 17 #[.agg #[.int .i64 x1, .int .i64 x2, .int .i64 x3]] w fun e w' => e = .returned (.agg #[.int .i64 x1, .int .i64 x2, .int .i64 x3]) ∧ Below w.heap.size w w' := by
  go_enter Tryd.func17, Tryd.ntmps17
  go_wp2
  exact bodyPost_ret (v := .agg #[.int .i64 x1, .int .i64 x2, .int .i64 x3]) (by simp [results, Tryd.results17, go_sem]) rfl ⟨rfl, below3 _ _ _ _⟩
set_option maxHeartbeats 400000 in
theorem eqStage_same (x1 x2 x3 : Int) (w : World) :
    Calls Tryd.prog 24 #[.agg #[.int .i64 x1, .int .i64 x2, .int .i64 x3], .agg #[.int .i64 x1, .int .i64 x2, .int .i64 x3]] w fun e w' => e = .returned (.bool true) ∧ Below w.heap.size w w' := by
  have h1 : (x1 != x1) = false := by simp
  have h2 : (x2 != x2) = false := by simp
  have h3 : (x3 != x3) = false := by simp
  go_enter Tryd.func24, Tryd.ntmps24
  go_wp2
  go_ret
  exact ⟨rfl, below2 _ _ _⟩
set_option maxRecDepth 10000 in
set_option maxHeartbeats 4000000 in
theorem toNode_any (nm : ByteArray) (kd sa sb cp : Int) (nxo : Option Addr) (nxc : Nat) (nx : List (Int)) (w : World) (hlnx : nx.length ≤ 1048576) (hz : InNode w.heap.size w nxo nx) :
    Calls Tryd.prog 7 #[.agg #[.string nm, .int .i64 kd, .int .i64 sa, .int .i64 sb, .int .i64 cp, .slice nxo nx.length nxc]] w fun e w' => ∃ gnx, e = .returned (.agg #[.string nm, .int .i64 kd, .int .i64 sa, .int .i64 sb, .int .i64 cp, .slice (some ⟨gnx, 0, none⟩) nx.length nx.length]) ∧ FrNode w.heap.size w'.heap.size w' (some ⟨gnx, 0, none⟩) nx.length nx ∧ Below w.heap.size w w' := by
  go_enter Tryd.func7, Tryd.ntmps7
  go_wp2_with fail
  obtain ⟨V0, hV0⟩ : ∃ V0, V0 = (((w.alloc (.cells #[.string nm, .int .i64 kd, .int .i64 sa, .int .i64 sb, .int .i64 cp, .slice nxo nx.length nxc] 26)).alloc (.cells #[.string ⟨#[]⟩, .int .i64 0, .int .i64 0, .int .i64 0, .int .i64 0, .slice none 0 0] 32)).alloc (.cells #[.string nm, .int .i64 0, .int .i64 0, .int .i64 0, .int .i64 0, .slice none 0 0] 32)) := ⟨_, rfl⟩
  rw [← hV0]
  have hs0 : V0.heap.size = w.heap.size + 1 + 1 + 1 := by rw [hV0]; simp
  have hB0 : Below w.heap.size w V0 := by rw [hV0]; exact below3 _ _ _ _
  have A0 : Hid (Bx V0 (w.heap.size) [.string nm, .int .i64 kd, .int .i64 sa, .int .i64 sb, .int .i64 cp, .slice nxo nx.length nxc]) := by rw [hV0]; exact ((Bx.new [.string nm, .int .i64 kd, .int .i64 sa, .int .i64 sb, .int .i64 cp, .slice nxo nx.length nxc] _ rfl).alloc _).alloc _
  have R0 : Hid (Bx V0 (w.heap.size + 1) [.string ⟨#[]⟩, .int .i64 0, .int .i64 0, .int .i64 0, .int .i64 0, .slice none 0 0]) := by rw [hV0]; exact (Bx.new [.string ⟨#[]⟩, .int .i64 0, .int .i64 0, .int .i64 0, .int .i64 0, .slice none 0 0] _ (by simp)).alloc _
  have Q0 : Hid (Bx V0 (w.heap.size + 1 + 1) [.string nm, .int .i64 0, .int .i64 0, .int .i64 0, .int .i64 0, .slice none 0 0]) := by rw [hV0]; exact Bx.new [.string nm, .int .i64 0, .int .i64 0, .int .i64 0, .int .i64 0, .slice none 0 0] _ (by simp)
  clear hV0
  refine (toStg_any kd sa sb V0).mono ?_
  rintro e v1 ⟨rfl, hv1⟩
  have hB1 := hB0.trans (hv1.mono hB0.size)
  have hs1 : w.heap.size + 1 + 1 + 1 ≤ v1.heap.size := by have := hv1.size; omega
  have A1 := hid (A0.out.later hv1)
  have R1 := hid (R0.out.later hv1)
  have Q1 := hid (Q0.out.later hv1)
  clear hv1 A0 R0 Q0 hB0 hs0
  have a0 := A1.out.c 0 rfl
  have o0 := Q1.out.c 0 rfl
  have of0 := Q1.out.f 0 rfl
  have a1 := A1.out.c 1 rfl
  have o1 := Q1.out.c 1 rfl
  have of1 := Q1.out.f 1 rfl
  have a2 := A1.out.c 2 rfl
  have o2 := Q1.out.c 2 rfl
  have of2 := Q1.out.f 2 rfl
  have a3 := A1.out.c 3 rfl
  have o3 := Q1.out.c 3 rfl
  have of3 := Q1.out.f 3 rfl
  have a4 := A1.out.c 4 rfl
  have o4 := Q1.out.c 4 rfl
  have of4 := Q1.out.f 4 rfl
  have a5 := A1.out.c 5 rfl
  have o5 := Q1.out.c 5 rfl
  have of5 := Q1.out.f 5 rfl
  have HS1 := hid hs1
  go_wp2_with fail
  obtain ⟨V2, hV2⟩ : ∃ V2, V2 = ((((v1.setCell ⟨w.heap.size + 1 + 1, 1, none⟩ (.int .i64 kd)).setCell ⟨w.heap.size + 1 + 1, 2, none⟩ (.int .i64 sa)).setCell ⟨w.heap.size + 1 + 1, 3, none⟩ (.int .i64 sb)).setCell ⟨w.heap.size + 1 + 1, 4, none⟩ (.int .i64 cp)) := ⟨_, rfl⟩
  rw [← hV2]
  have hB2 : Below w.heap.size w V2 := by rw [hV2]; exact (((hB1.setCell (p := ⟨w.heap.size + 1 + 1, 1, none⟩) (by simp only; omega) _).setCell (p := ⟨w.heap.size + 1 + 1, 2, none⟩) (by simp only; omega) _).setCell (p := ⟨w.heap.size + 1 + 1, 3, none⟩) (by simp only; omega) _).setCell (p := ⟨w.heap.size + 1 + 1, 4, none⟩) (by simp only; omega) _
  have hs2 : V2.heap.size = v1.heap.size := by rw [hV2]; simp [World.setCell]
  have A2 : Hid (Bx V2 (w.heap.size) [.string nm, .int .i64 kd, .int .i64 sa, .int .i64 sb, .int .i64 cp, .slice nxo nx.length nxc]) := by rw [hV2]; exact (((A1.out.other (a := ⟨w.heap.size + 1 + 1, 1, none⟩) (by simp only; omega) _).other (a := ⟨w.heap.size + 1 + 1, 2, none⟩) (by simp only; omega) _).other (a := ⟨w.heap.size + 1 + 1, 3, none⟩) (by simp only; omega) _).other (a := ⟨w.heap.size + 1 + 1, 4, none⟩) (by simp only; omega) _
  have R2 : Hid (Bx V2 (w.heap.size + 1) [.string ⟨#[]⟩, .int .i64 0, .int .i64 0, .int .i64 0, .int .i64 0, .slice none 0 0]) := by rw [hV2]; exact (((R1.out.other (a := ⟨w.heap.size + 1 + 1, 1, none⟩) (by simp only; omega) _).other (a := ⟨w.heap.size + 1 + 1, 2, none⟩) (by simp only; omega) _).other (a := ⟨w.heap.size + 1 + 1, 3, none⟩) (by simp only; omega) _).other (a := ⟨w.heap.size + 1 + 1, 4, none⟩) (by simp only; omega) _
  have Q2 : Hid (Bx V2 (w.heap.size + 1 + 1) [.string nm, .int .i64 kd, .int .i64 sa, .int .i64 sb, .int .i64 cp, .slice none 0 0]) := by rw [hV2]; exact (((Q1.out.set 1 (.int .i64 kd)).set 2 (.int .i64 sa)).set 3 (.int .i64 sb)).set 4 (.int .i64 cp)
  clear hV2 A1 R1 Q1 a0 o0 of0 a1 o1 of1 a2 o2 of2 a3 o3 of3 a4 o4 of4 a5 o5 of5 hB1
  refine (toIntS_any nxo nxc nx _ hlnx (Kind.In.later hz hB2)).mono ?_
  rintro e w3 ⟨rfl, hT, hb⟩
  obtain ⟨gnx, hg⟩ : ∃ g, g = V2.heap.size := ⟨_, rfl⟩
  rw [← hg] at hT ⊢
  have hgb : w.heap.size + 1 + 1 + 1 ≤ gnx := by omega
  have hB3 := hB2.trans (hb.mono hB2.size)
  have hs3 : w.heap.size + 1 + 1 + 1 ≤ w3.heap.size := by have := hb.size; omega
  have R3 := hid (R2.out.later hb)
  have Q3 := hid (Q2.out.later hb)
  have HT := hid hT
  clear hb hT A2 R2 Q2 hB2 hg hs2 hs1
  have r0 := R3.out.c 0 rfl
  have rf0 := R3.out.f 0 rfl
  have o0 := Q3.out.c 0 rfl
  have of0 := Q3.out.f 0 rfl
  have r1 := R3.out.c 1 rfl
  have rf1 := R3.out.f 1 rfl
  have o1 := Q3.out.c 1 rfl
  have of1 := Q3.out.f 1 rfl
  have r2 := R3.out.c 2 rfl
  have rf2 := R3.out.f 2 rfl
  have o2 := Q3.out.c 2 rfl
  have of2 := Q3.out.f 2 rfl
  have r3 := R3.out.c 3 rfl
  have rf3 := R3.out.f 3 rfl
  have o3 := Q3.out.c 3 rfl
  have of3 := Q3.out.f 3 rfl
  have r4 := R3.out.c 4 rfl
  have rf4 := R3.out.f 4 rfl
  have o4 := Q3.out.c 4 rfl
  have of4 := Q3.out.f 4 rfl
  have r5 := R3.out.c 5 rfl
  have rf5 := R3.out.f 5 rfl
  have o5 := Q3.out.c 5 rfl
  have of5 := Q3.out.f 5 rfl
  go_wp2
  refine bodyPost_ret (v := .agg #[.string nm, .int .i64 kd, .int .i64 sa, .int .i64 sb, .int .i64 cp, .slice (some ⟨gnx, 0, none⟩) nx.length nx.length]) (by simp [results, Tryd.results7, go_sem, r0, r1, r2, r3, r4, r5]) rfl ⟨_, rfl, ?_, ?_⟩
  · exact Kind.Fresh.wide (((((((HT.out.setBelow (a := ⟨w.heap.size + 1 + 1, 5, none⟩) (by simp only; omega) _).setBelow (a := ⟨w.heap.size + 1, 0, none⟩) (by simp only; omega) _).setBelow (a := ⟨w.heap.size + 1, 1, none⟩) (by simp only; omega) _).setBelow (a := ⟨w.heap.size + 1, 2, none⟩) (by simp only; omega) _).setBelow (a := ⟨w.heap.size + 1, 3, none⟩) (by simp only; omega) _).setBelow (a := ⟨w.heap.size + 1, 4, none⟩) (by simp only; omega) _).setBelow (a := ⟨w.heap.size + 1, 5, none⟩) (by simp only; omega) _) (by omega) (by simp [World.setCell])
  · exact (((((((hB3.setCell (p := ⟨w.heap.size + 1 + 1, 5, none⟩) (by simp only; omega) _).setCell (p := ⟨w.heap.size + 1, 0, none⟩) (by simp only; omega) _).setCell (p := ⟨w.heap.size + 1, 1, none⟩) (by simp only; omega) _).setCell (p := ⟨w.heap.size + 1, 2, none⟩) (by simp only; omega) _).setCell (p := ⟨w.heap.size + 1, 3, none⟩) (by simp only; omega) _).setCell (p := ⟨w.heap.size + 1, 4, none⟩) (by simp only; omega) _).setCell (p := ⟨w.heap.size + 1, 5, none⟩) (by simp only; omega) _)
set_option maxHeartbeats 2000000 in
theorem eqNode_same (nm : ByteArray) (kd sa sb cp : Int) (nxo : Option Addr) (nxc : Nat) (nx : List (Int)) (nxo' : Option Addr) (nxc' : Nat) (w : World) (hlnx : nx.length ≤ 1048576) (hz : InNode w.heap.size w nxo nx) (hz' : InNode w.heap.size w nxo' nx) :
    Calls Tryd.prog 9 #[.agg #[.string nm, .int .i64 kd, .int .i64 sa, .int .i64 sb, .int .i64 cp, .slice nxo nx.length nxc], .agg #[.string nm, .int .i64 kd, .int .i64 sa, .int .i64 sb, .int .i64 cp, .slice nxo' nx.length nxc']] w fun e w' => e = .returned (.bool true) ∧ Below w.heap.size w w' := by
  have hnm : (nm.toList != nm.toList) = false := by simp
  have hcp : (cp != cp) = false := by simp
  have hB0 := below2 w (.cells #[.string nm, .int .i64 kd, .int .i64 sa, .int .i64 sb, .int .i64 cp, .slice nxo nx.length nxc] 32) (.cells #[.string nm, .int .i64 kd, .int .i64 sa, .int .i64 sb, .int .i64 cp, .slice nxo' nx.length nxc'] 32)
  have X0 := hid ((Bx.new (w := w) [.string nm, .int .i64 kd, .int .i64 sa, .int .i64 sb, .int .i64 cp, .slice nxo nx.length nxc] 32 rfl).alloc (.cells #[.string nm, .int .i64 kd, .int .i64 sa, .int .i64 sb, .int .i64 cp, .slice nxo' nx.length nxc'] 32))
  have Y0 := hid (Bx.new (w := w.alloc (.cells #[.string nm, .int .i64 kd, .int .i64 sa, .int .i64 sb, .int .i64 cp, .slice nxo nx.length nxc] 32)) (p := w.heap.size + 1) [.string nm, .int .i64 kd, .int .i64 sa, .int .i64 sb, .int .i64 cp, .slice nxo' nx.length nxc'] 32 (by simp))
  go_enter Tryd.func9, Tryd.ntmps9
  go_wp2_with fail
  refine (eqStage_same kd sa sb _).mono ?_
  rintro e w1 ⟨rfl, hb1⟩
  have hB1 := hB0.trans (hb1.mono hB0.size)
  have X1 := hid (X0.out.later hb1)
  have Y1 := hid (Y0.out.later hb1)
  clear hb1 X0 Y0 hB0
  have x0 := X1.out.c 0 rfl
  have y0 := Y1.out.c 0 rfl
  have x1 := X1.out.c 1 rfl
  have y1 := Y1.out.c 1 rfl
  have x2 := X1.out.c 2 rfl
  have y2 := Y1.out.c 2 rfl
  have x3 := X1.out.c 3 rfl
  have y3 := Y1.out.c 3 rfl
  have x4 := X1.out.c 4 rfl
  have y4 := Y1.out.c 4 rfl
  have x5 := X1.out.c 5 rfl
  have y5 := Y1.out.c 5 rfl
  go_wp2_with fail
  refine (eqIntS_same nxo nxo' nxc nxc' nx _ hlnx (Kind.In.later hz hB1) (Kind.In.later hz' hB1)).mono ?_
  rintro e w2 ⟨rfl, hb2⟩
  have hB2 := hB1.trans (hb2.mono hB1.size)
  clear hb2
  go_wp2
  go_ret
  exact ⟨rfl, hB2⟩
/-- A Node in memory: its scalars, and of each row where it begins, its room, what it holds. -/
abbrev LNode := ByteArray × Int × Int × Int × Int × (Option Addr × Nat × List (Int))
/-- What a Node says, wherever it lies. -/
abbrev PNode := ByteArray × Int × Int × Int × Int × List (Int)
def valNode (a : LNode) : PNode := (a.1, a.2.1, a.2.2.1, a.2.2.2.1, a.2.2.2.2.1, a.2.2.2.2.2.2.2)
theorem Tryd.info32 : (Tryd.prog.info? 32).map (fun i => (i.zero, i.size, i.bytes)) = some (some (.agg #[.string ⟨#[]⟩, .int .i64 0, .int .i64 0, .int .i64 0, .int .i64 0, .slice none 0 0]), 6, 72) := by kernel_rfl
theorem InNode.up {n m : Nat} {W : World} {nxo : Option Addr} {nx : List (Int)} (h : InNode n W nxo nx) (hm : n ≤ m) : InNode m W nxo nx := Kind.In.up h hm
/-- How many there are behind a Node. -/
def sizeNode (a : LNode) : Nat := a.1.size + (a.2.2.2.2.2).2.2.length
def totNode (ts : List LNode) : Nat := (ts.map sizeNode).sum
theorem totNode_take {ts : List LNode} {k : Nat} (h : k < ts.length) : totNode (ts.take (k + 1)) = totNode (ts.take k) + sizeNode (el ts k) := by rw [take_succ_el h]; simp [totNode]
theorem totNode_le (ts : List LNode) (k : Nat) : totNode (ts.take k) ≤ totNode ts := by
  induction ts generalizing k with
  | nil => simp [totNode]
  | cons x r ih =>
    cases k with
    | zero => simp [totNode]
    | succ k => simp only [List.take_succ_cons, totNode, List.map_cons, List.sum_cons]; have := ih k; simp only [totNode] at this; omega
theorem totNode_el {ts : List LNode} {k : Nat} (h : k < ts.length) : totNode (ts.take k) + sizeNode (el ts k) ≤ totNode ts := by rw [← totNode_take h]; exact totNode_le ts _
set_option maxHeartbeats 2000000 in
theorem szgNode_any (nm : ByteArray) (kd : Int) (sa : Int) (sb : Int) (cp : Int) (nxo : Option Addr) (nnx nxc : Nat) (L : Int) (w : World) (hln : nm.size ≤ 9223372036854775807) (h0 : 0 ≤ L) (h1 : L ≤ 1048576) (hlnx : nnx ≤ 9223372036854775807) :
    Calls Tryd.prog 5 #[.agg #[.string nm, .int .i64 kd, .int .i64 sa, .int .i64 sb, .int .i64 cp, .slice nxo nnx nxc], .int .i64 L] w fun e w' => (∃ z : Int, e = .returned (.int .i64 z) ∧ z ≤ 1048576 ∧ ((z < 0) ∨ (z = L - (nm.size + nnx : Nat) ∧ 0 ≤ z))) ∧ Below w.heap.size w w' := by
  have hB0 := below1 w (.cells #[.string nm, .int .i64 kd, .int .i64 sa, .int .i64 sb, .int .i64 cp, .slice nxo nnx nxc] 26)
  go_enter Tryd.func5, Tryd.ntmps5
  by_cases gn : L - (nm.size : Int) < 0
  · go_wp2
    go_ret
    exact ⟨⟨_, rfl, by omega, by omega⟩, hB0⟩
  go_wp2_with fail
  refine (szIntS_any _ _ _ _ _ (by omega) (by omega) hlnx).mono ?_
  rintro e w1 ⟨⟨z0, rfl, hr0, hs0⟩, rfl⟩
  by_cases g0 : z0 < 0
  · go_wp2
    go_ret
    exact ⟨⟨_, rfl, by omega, by omega⟩, hB0⟩
  go_wp2
  go_ret
  exact ⟨⟨_, rfl, by omega, by omega⟩, hB0⟩
end Go.Proofs.YtekadjjofcicaaaDoor
