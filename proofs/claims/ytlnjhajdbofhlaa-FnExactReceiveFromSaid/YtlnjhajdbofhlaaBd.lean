/- A channel in memory of its own; the laws' copies of channels. No conditions but those written. -/
import Derived.Test.YtlnjhajdbofhlaaBc
namespace Go.Proofs.Ytlnjhajdbofhlaa
open Go.RowKit

/-- The block p holds the five values, and may be written. -/
def BoxF5 (W : World) (p : Nat) (u0 u1 u2 u3 u4 : Value) : Prop := Box5 W p u0 u1 u2 u3 u4 ∧ W.frozen? ⟨p, 0, none⟩ = false ∧ W.frozen? ⟨p, 1, none⟩ = false ∧ W.frozen? ⟨p, 2, none⟩ = false ∧ W.frozen? ⟨p, 3, none⟩ = false ∧ W.frozen? ⟨p, 4, none⟩ = false
theorem BoxF5.new (w : World) (u0 u1 u2 u3 u4 : Value) (t : TypeId) : BoxF5 (w.alloc (.cells #[u0, u1, u2, u3, u4] t)) w.heap.size u0 u1 u2 u3 u4 := ⟨Box5.new _ _ _ _ _ _ _, by simp [go_sem], by simp [go_sem], by simp [go_sem], by simp [go_sem], by simp [go_sem]⟩
theorem BoxF5.later {W W' : World} {p : Nat} {u0 u1 u2 u3 u4 : Value} (h : BoxF5 W p u0 u1 u2 u3 u4) (hb : Below W.heap.size W W') : BoxF5 W' p u0 u1 u2 u3 u4 :=
  ⟨h.1.later hb, (hb.frozen (p := ⟨p, 0, none⟩) h.1.1).trans h.2.1, (hb.frozen (p := ⟨p, 1, none⟩) h.1.1).trans h.2.2.1, (hb.frozen (p := ⟨p, 2, none⟩) h.1.1).trans h.2.2.2.1, (hb.frozen (p := ⟨p, 3, none⟩) h.1.1).trans h.2.2.2.2.1, (hb.frozen (p := ⟨p, 4, none⟩) h.1.1).trans h.2.2.2.2.2⟩
theorem BoxF5.below {n : Nat} {W W' : World} {p : Nat} {u0 u1 u2 u3 u4 : Value} (h : BoxF5 W p u0 u1 u2 u3 u4) (hb : Below n W W') (hp : p < n) : BoxF5 W' p u0 u1 u2 u3 u4 :=
  ⟨⟨Nat.lt_of_lt_of_le h.1.1 hb.size, (hb.cell (p := ⟨p, 0, none⟩) hp).trans h.1.2.1, (hb.cell (p := ⟨p, 1, none⟩) hp).trans h.1.2.2.1, (hb.cell (p := ⟨p, 2, none⟩) hp).trans h.1.2.2.2.1, (hb.cell (p := ⟨p, 3, none⟩) hp).trans h.1.2.2.2.2.1, (hb.cell (p := ⟨p, 4, none⟩) hp).trans h.1.2.2.2.2.2⟩, (hb.frozen (p := ⟨p, 0, none⟩) hp).trans h.2.1, (hb.frozen (p := ⟨p, 1, none⟩) hp).trans h.2.2.1, (hb.frozen (p := ⟨p, 2, none⟩) hp).trans h.2.2.2.1, (hb.frozen (p := ⟨p, 3, none⟩) hp).trans h.2.2.2.2.1, (hb.frozen (p := ⟨p, 4, none⟩) hp).trans h.2.2.2.2.2⟩
/-- The block b lies as it lay. -/
def SameAt (b : Nat) (W W' : World) : Prop := W'.heap[b]? = W.heap[b]?
theorem SameAt.cell {b : Nat} {W W' : World} (h : SameAt b W W') (o : Nat) : W'.cell? ⟨b, o, none⟩ = W.cell? ⟨b, o, none⟩ := World.cell?_of_block (w := W) (a := ⟨b, o, none⟩) h
theorem SameAt.frozen {b : Nat} {W W' : World} (h : SameAt b W W') (o : Nat) : W'.frozen? ⟨b, o, none⟩ = W.frozen? ⟨b, o, none⟩ := World.frozen?_of_block (w := W) (a := ⟨b, o, none⟩) h
theorem BoxF5.other {W : World} {p : Nat} {u0 u1 u2 u3 u4 : Value} (h : BoxF5 W p u0 u1 u2 u3 u4) (a : Addr) (ha : a.block ≠ p) (u : Value) : BoxF5 (W.setCell a u) p u0 u1 u2 u3 u4 := by
  have hs : SameAt p W (W.setCell a u) := Below.heap_setCell W a u p (Ne.symm ha)
  exact ⟨⟨by simpa [World.setCell] using h.1.1, hs.cell _ |>.trans h.1.2.1, hs.cell _ |>.trans h.1.2.2.1, hs.cell _ |>.trans h.1.2.2.2.1, hs.cell _ |>.trans h.1.2.2.2.2.1, hs.cell _ |>.trans h.1.2.2.2.2.2⟩, hs.frozen _ |>.trans h.2.1, hs.frozen _ |>.trans h.2.2.1, hs.frozen _ |>.trans h.2.2.2.1, hs.frozen _ |>.trans h.2.2.2.2.1, hs.frozen _ |>.trans h.2.2.2.2.2⟩
theorem BoxF5.set0 {W : World} {p : Nat} {u0 u1 u2 u3 u4 : Value} (h : BoxF5 W p u0 u1 u2 u3 u4) (v : Value) : BoxF5 (W.setCell ⟨p, 0, none⟩ v) p v u1 u2 u3 u4 :=
  ⟨⟨by simpa [World.setCell] using h.1.1, World.cell?_setCell_same' _ _ _ (by rw [h.1.2.1]; rfl), (World.cell?_setCell_other _ _ _ _ (by simp)).trans h.1.2.2.1, (World.cell?_setCell_other _ _ _ _ (by simp)).trans h.1.2.2.2.1, (World.cell?_setCell_other _ _ _ _ (by simp)).trans h.1.2.2.2.2.1, (World.cell?_setCell_other _ _ _ _ (by simp)).trans h.1.2.2.2.2.2⟩, (by rw [World.frozen?_setCell]; exact h.2.1), (by rw [World.frozen?_setCell]; exact h.2.2.1), (by rw [World.frozen?_setCell]; exact h.2.2.2.1), (by rw [World.frozen?_setCell]; exact h.2.2.2.2.1), (by rw [World.frozen?_setCell]; exact h.2.2.2.2.2)⟩
theorem BoxF5.set1 {W : World} {p : Nat} {u0 u1 u2 u3 u4 : Value} (h : BoxF5 W p u0 u1 u2 u3 u4) (v : Value) : BoxF5 (W.setCell ⟨p, 1, none⟩ v) p u0 v u2 u3 u4 :=
  ⟨⟨by simpa [World.setCell] using h.1.1, (World.cell?_setCell_other _ _ _ _ (by simp)).trans h.1.2.1, World.cell?_setCell_same' _ _ _ (by rw [h.1.2.2.1]; rfl), (World.cell?_setCell_other _ _ _ _ (by simp)).trans h.1.2.2.2.1, (World.cell?_setCell_other _ _ _ _ (by simp)).trans h.1.2.2.2.2.1, (World.cell?_setCell_other _ _ _ _ (by simp)).trans h.1.2.2.2.2.2⟩, (by rw [World.frozen?_setCell]; exact h.2.1), (by rw [World.frozen?_setCell]; exact h.2.2.1), (by rw [World.frozen?_setCell]; exact h.2.2.2.1), (by rw [World.frozen?_setCell]; exact h.2.2.2.2.1), (by rw [World.frozen?_setCell]; exact h.2.2.2.2.2)⟩
theorem BoxF5.set2 {W : World} {p : Nat} {u0 u1 u2 u3 u4 : Value} (h : BoxF5 W p u0 u1 u2 u3 u4) (v : Value) : BoxF5 (W.setCell ⟨p, 2, none⟩ v) p u0 u1 v u3 u4 :=
  ⟨⟨by simpa [World.setCell] using h.1.1, (World.cell?_setCell_other _ _ _ _ (by simp)).trans h.1.2.1, (World.cell?_setCell_other _ _ _ _ (by simp)).trans h.1.2.2.1, World.cell?_setCell_same' _ _ _ (by rw [h.1.2.2.2.1]; rfl), (World.cell?_setCell_other _ _ _ _ (by simp)).trans h.1.2.2.2.2.1, (World.cell?_setCell_other _ _ _ _ (by simp)).trans h.1.2.2.2.2.2⟩, (by rw [World.frozen?_setCell]; exact h.2.1), (by rw [World.frozen?_setCell]; exact h.2.2.1), (by rw [World.frozen?_setCell]; exact h.2.2.2.1), (by rw [World.frozen?_setCell]; exact h.2.2.2.2.1), (by rw [World.frozen?_setCell]; exact h.2.2.2.2.2)⟩
theorem BoxF5.set3 {W : World} {p : Nat} {u0 u1 u2 u3 u4 : Value} (h : BoxF5 W p u0 u1 u2 u3 u4) (v : Value) : BoxF5 (W.setCell ⟨p, 3, none⟩ v) p u0 u1 u2 v u4 :=
  ⟨⟨by simpa [World.setCell] using h.1.1, (World.cell?_setCell_other _ _ _ _ (by simp)).trans h.1.2.1, (World.cell?_setCell_other _ _ _ _ (by simp)).trans h.1.2.2.1, (World.cell?_setCell_other _ _ _ _ (by simp)).trans h.1.2.2.2.1, World.cell?_setCell_same' _ _ _ (by rw [h.1.2.2.2.2.1]; rfl), (World.cell?_setCell_other _ _ _ _ (by simp)).trans h.1.2.2.2.2.2⟩, (by rw [World.frozen?_setCell]; exact h.2.1), (by rw [World.frozen?_setCell]; exact h.2.2.1), (by rw [World.frozen?_setCell]; exact h.2.2.2.1), (by rw [World.frozen?_setCell]; exact h.2.2.2.2.1), (by rw [World.frozen?_setCell]; exact h.2.2.2.2.2)⟩
theorem BoxF5.set4 {W : World} {p : Nat} {u0 u1 u2 u3 u4 : Value} (h : BoxF5 W p u0 u1 u2 u3 u4) (v : Value) : BoxF5 (W.setCell ⟨p, 4, none⟩ v) p u0 u1 u2 u3 v :=
  ⟨⟨by simpa [World.setCell] using h.1.1, (World.cell?_setCell_other _ _ _ _ (by simp)).trans h.1.2.1, (World.cell?_setCell_other _ _ _ _ (by simp)).trans h.1.2.2.1, (World.cell?_setCell_other _ _ _ _ (by simp)).trans h.1.2.2.2.1, (World.cell?_setCell_other _ _ _ _ (by simp)).trans h.1.2.2.2.2.1, World.cell?_setCell_same' _ _ _ (by rw [h.1.2.2.2.2.2]; rfl)⟩, (by rw [World.frozen?_setCell]; exact h.2.1), (by rw [World.frozen?_setCell]; exact h.2.2.1), (by rw [World.frozen?_setCell]; exact h.2.2.2.1), (by rw [World.frozen?_setCell]; exact h.2.2.2.2.1), (by rw [World.frozen?_setCell]; exact h.2.2.2.2.2)⟩

/-- Two rows of waiters do not share a block. -/
def Apart (so : Option Addr) (s : List T3) (ro : Option Addr) (r : List T3) : Prop := s = [] ∨ r = [] ∨ so ≠ ro
theorem apart_of {lo mid mid' hi : Nat} {W W' : World} {so ro : Option Addr} {sc rc : Nat} {s r : List T3} (hs : FreshC lo mid W so sc s) (hr : FreshC mid' hi W' ro rc r) (hm : mid ≤ mid') : Apart so s ro r := by
  rcases hs with h | ⟨g, xs, e, hg, ho, _⟩
  · exact .inl h
  · rcases hr with h | ⟨g', xs', e', hg', ho', _⟩
    · exact .inr (.inl h)
    · refine .inr (.inr ?_)
      have := (owns_lt ho').1
      rw [e, e']; intro h; cases h; omega
theorem Apart.symm {so ro : Option Addr} {s r : List T3} (h : Apart so s ro r) : Apart ro r so s := by
  rcases h with h | h | h
  · exact .inr (.inl h)
  · exact .inl h
  · exact .inr (.inr (Ne.symm h))
/-- What a channel holds, in memory of its own. -/
def FreshCh (lo hi : Nat) (W : World) (bo : Option Addr) (bc : Nat) (b : List Int) (so : Option Addr) (sc : Nat) (s : List T3) (ro : Option Addr) (rc : Nat) (r : List T3) : Prop :=
  FreshI lo hi W bo bc b ∧ FreshC lo hi W so sc s ∧ FreshC lo hi W ro rc r ∧ Apart so s ro r
/-- What a channel holds. -/
def ChanIn (n : Nat) (W : World) (bo : Option Addr) (b : List Int) (so : Option Addr) (s : List T3) (ro : Option Addr) (r : List T3) : Prop := IntsIn n W bo b ∧ TimersIn n W so s ∧ TimersIn n W ro r
theorem ChanIn.later {W W' : World} {bo : Option Addr} {b : List Int} {so : Option Addr} {s : List T3} {ro : Option Addr} {r : List T3} (h : ChanIn W.heap.size W bo b so s ro r) (hb : Below W.heap.size W W') : ChanIn W'.heap.size W' bo b so s ro r := ⟨h.1.later hb, h.2.1.later hb, h.2.2.later hb⟩
theorem ChanIn.below {n : Nat} {W W' : World} {bo : Option Addr} {b : List Int} {so : Option Addr} {s : List T3} {ro : Option Addr} {r : List T3} (h : ChanIn n W bo b so s ro r) (hb : Below n W W') : ChanIn n W' bo b so s ro r := ⟨h.1.below hb, h.2.1.below hb, h.2.2.below hb⟩
theorem FreshCh.chan {lo hi : Nat} {W : World} {bo : Option Addr} {bc : Nat} {b : List Int} {so : Option Addr} {sc : Nat} {s : List T3} {ro : Option Addr} {rc : Nat} {r : List T3} (h : FreshCh lo hi W bo bc b so sc s ro rc r) : ChanIn W.heap.size W bo b so s ro r := ⟨h.1.ints, h.2.1.timers, h.2.2.1.timers⟩
theorem FreshCh.later {lo hi : Nat} {W W' : World} {bo : Option Addr} {bc : Nat} {b : List Int} {so : Option Addr} {sc : Nat} {s : List T3} {ro : Option Addr} {rc : Nat} {r : List T3} (h : FreshCh lo hi W bo bc b so sc s ro rc r) (hb : Below W.heap.size W W') : FreshCh lo hi W' bo bc b so sc s ro rc r := ⟨h.1.later hb, h.2.1.later hb, h.2.2.1.later hb, h.2.2.2⟩
theorem FreshCh.wide {lo hi lo' hi' : Nat} {W : World} {bo : Option Addr} {bc : Nat} {b : List Int} {so : Option Addr} {sc : Nat} {s : List T3} {ro : Option Addr} {rc : Nat} {r : List T3} (h : FreshCh lo hi W bo bc b so sc s ro rc r) (h1 : lo' ≤ lo) (h2 : hi ≤ hi') : FreshCh lo' hi' W bo bc b so sc s ro rc r := ⟨h.1.wide h1 h2, h.2.1.wide h1 h2, h.2.2.1.wide h1 h2, h.2.2.2⟩
theorem FreshCh.setBelow {lo hi : Nat} {W : World} {bo : Option Addr} {bc : Nat} {b : List Int} {so : Option Addr} {sc : Nat} {s : List T3} {ro : Option Addr} {rc : Nat} {r : List T3} (h : FreshCh lo hi W bo bc b so sc s ro rc r) {a : Addr} (ha : a.block < lo) (u : Value) : FreshCh lo hi (W.setCell a u) bo bc b so sc s ro rc r := ⟨h.1.setBelow ha u, h.2.1.setBelow ha u, h.2.2.1.setBelow ha u, h.2.2.2⟩
theorem FreshCh.between' {lo hi lo' hi' : Nat} {W W' : World} {bo : Option Addr} {bc : Nat} {b : List Int} {so : Option Addr} {sc : Nat} {s : List T3} {ro : Option Addr} {rc : Nat} {r : List T3} (h : FreshCh lo hi W bo bc b so sc s ro rc r) (hb : Between lo' hi' W W') (hd : hi ≤ lo' ∨ hi' ≤ lo) : FreshCh lo hi W' bo bc b so sc s ro rc r := ⟨h.1.between' hb hd, h.2.1.between' hb hd, h.2.2.1.between' hb hd, h.2.2.2⟩

set_option maxRecDepth 10000 in
set_option maxHeartbeats 4000000 in
theorem toChan_any (kap : Int) (cl : Bool) (bo : Option Addr) (bc : Nat) (b : List Int) (so : Option Addr) (sc : Nat) (s : List T3) (ro : Option Addr) (rc : Nat) (r : List T3) (w : World) (hl : b.length ≤ 1048576) (hls : s.length ≤ 1048576) (hlr : r.length ≤ 1048576) (hz : ChanIn w.heap.size w bo b so s ro r) :
    Calls Try.prog 17 #[.agg #[.int .i64 kap, .bool cl, .slice bo b.length bc, .slice so s.length sc, .slice ro r.length rc]] w fun e w' => ∃ gb gs gr, e = .returned (.agg #[.int .i64 kap, .bool cl, .slice (some ⟨gb, 0, none⟩) b.length b.length, .slice (some ⟨gs, 0, none⟩) s.length s.length, .slice (some ⟨gr, 0, none⟩) r.length r.length]) ∧ FreshCh w.heap.size w'.heap.size w' (some ⟨gb, 0, none⟩) b.length b (some ⟨gs, 0, none⟩) s.length s (some ⟨gr, 0, none⟩) r.length r ∧ Below w.heap.size w w' := by
  go_enter Try.func17, Try.ntmps17
  go_wp2_with fail
  obtain ⟨W0, hW0⟩ : ∃ W0, W0 = (((w.alloc (.cells #[.int .i64 kap, .bool cl, .slice bo b.length bc, .slice so s.length sc, .slice ro r.length rc] 39)).alloc (.cells #[.int .i64 0, .bool false, .slice none 0 0, .slice none 0 0, .slice none 0 0] 26)).alloc (.cells #[.int .i64 kap, .bool cl, .slice none 0 0, .slice none 0 0, .slice none 0 0] 26)) := ⟨_, rfl⟩
  rw [← hW0]
  have hs0 : W0.heap.size = w.heap.size + 1 + 1 + 1 := by rw [hW0]; simp
  have hB0 : Below w.heap.size w W0 := by rw [hW0]; exact below3 _ _ _ _
  have A0 : BoxF5 W0 w.heap.size (.int .i64 kap) (.bool cl) (.slice bo b.length bc) (.slice so s.length sc) (.slice ro r.length rc) := by rw [hW0]; exact (BoxF5.new w _ _ _ _ _ _).later (below2 _ _ _)
  have R0 : BoxF5 W0 (w.heap.size + 1) (.int .i64 0) (.bool false) (.slice none 0 0) (.slice none 0 0) (.slice none 0 0) := by
    have h := (BoxF5.new (w.alloc (.cells #[.int .i64 kap, .bool cl, .slice bo b.length bc, .slice so s.length sc, .slice ro r.length rc] 39)) (.int .i64 0) (.bool false) (.slice none 0 0) (.slice none 0 0) (.slice none 0 0) 26).later (below1 _ (.cells #[.int .i64 kap, .bool cl, .slice none 0 0, .slice none 0 0, .slice none 0 0] 26))
    rw [hW0]; simpa using h
  have O0 : BoxF5 W0 (w.heap.size + 1 + 1) (.int .i64 kap) (.bool cl) (.slice none 0 0) (.slice none 0 0) (.slice none 0 0) := by
    have h := BoxF5.new ((w.alloc (.cells #[.int .i64 kap, .bool cl, .slice bo b.length bc, .slice so s.length sc, .slice ro r.length rc] 39)).alloc (.cells #[.int .i64 0, .bool false, .slice none 0 0, .slice none 0 0, .slice none 0 0] 26)) (.int .i64 kap) (.bool cl) (.slice none 0 0) (.slice none 0 0) (.slice none 0 0) 26
    rw [hW0]; simpa using h
  clear hW0
  have HS0 : Hid (W0.heap.size = w.heap.size + 1 + 1 + 1) := hs0
  clear hs0
  refine (toIntS_any bo bc b _ hl (hz.1.later hB0)).mono ?_
  rintro e w1 ⟨rfl, hT1, hb1⟩
  have hB1 := hB0.trans (hb1.mono hB0.size)
  have A1 := A0.later hb1
  have R1 := R0.later hb1
  have O1 := O0.later hb1
  have F1 : Hid (FreshI W0.heap.size w1.heap.size w1 (some ⟨W0.heap.size, 0, none⟩) b.length b) := .inr ⟨_, rfl, (owns_lt hT1).2, hT1⟩
  obtain ⟨⟨_, a0, a1, a2, a3, a4⟩, _⟩ := id A1
  obtain ⟨⟨_, o0, o1, o2, o3, o4⟩, of0, of1, of2, of3, of4⟩ := id O1
  clear hT1 A0 R0 O0
  have hsz1 := hb1.size
  clear hb1
  obtain ⟨V1, hV1⟩ : ∃ V1, V1 = w1.setCell ⟨w.heap.size + 1 + 1, 2, none⟩ (.slice (some ⟨W0.heap.size, 0, none⟩) b.length b.length) := ⟨_, rfl⟩
  have HV1 : Hid (V1 = w1.setCell ⟨w.heap.size + 1 + 1, 2, none⟩ (.slice (some ⟨W0.heap.size, 0, none⟩) b.length b.length)) := hV1
  have hsV1 : V1.heap.size = w1.heap.size := by rw [hV1]; simp [World.setCell]
  have hBV1 : Below w.heap.size w V1 := by rw [hV1]; exact hB1.setCell (p := ⟨w.heap.size + 1 + 1, 2, none⟩) (by simp; omega) _
  have A2 := A1.other ⟨w.heap.size + 1 + 1, 2, none⟩ (by simp; omega) (.slice (some ⟨W0.heap.size, 0, none⟩) b.length b.length)
  rw [← hV1] at A2
  have R2 := R1.other ⟨w.heap.size + 1 + 1, 2, none⟩ (by simp) (.slice (some ⟨W0.heap.size, 0, none⟩) b.length b.length)
  rw [← hV1] at R2
  have O2 := O1.set2 (.slice (some ⟨W0.heap.size, 0, none⟩) b.length b.length)
  rw [← hV1] at O2
  have F2 : Hid (FreshI W0.heap.size w1.heap.size V1 (some ⟨W0.heap.size, 0, none⟩) b.length b) := by rw [hV1]; exact F1.out.setBelow (by simp; have := HS0.out; omega) _
  have HSV1 : Hid (V1.heap.size = w1.heap.size) := hsV1
  clear hV1 hsV1 A1 R1 O1 F1 hB1
  go_wp2_with fail
  rw [← HV1.out]
  refine (toWaiterS_any so sc s _ hls (hz.2.1.later hBV1)).mono ?_
  rintro e w2 ⟨rfl, hT2, hb2⟩
  have hB2 := hBV1.trans (hb2.mono hBV1.size)
  have A3 := A2.later hb2
  have R3 := R2.later hb2
  have O3 := O2.later hb2
  have F3 : Hid (FreshI W0.heap.size w1.heap.size w2 (some ⟨W0.heap.size, 0, none⟩) b.length b ∧ FreshC V1.heap.size w2.heap.size w2 (some ⟨V1.heap.size, 0, none⟩) s.length s) := ⟨F2.out.later hb2, hT2⟩
  clear a0 a1 a2 a3 a4 o0 o1 o2 o3 o4 of0 of1 of2 of3 of4 HV1 hT2 A2 R2 O2 F2
  have hsz2 := hb2.size
  clear hb2
  obtain ⟨⟨_, a0, a1, a2, a3, a4⟩, _⟩ := id A3
  obtain ⟨⟨_, o0, o1, o2, o3, o4⟩, of0, of1, of2, of3, of4⟩ := id O3
  obtain ⟨V2, hV2⟩ : ∃ V2, V2 = w2.setCell ⟨w.heap.size + 1 + 1, 3, none⟩ (.slice (some ⟨V1.heap.size, 0, none⟩) s.length s.length) := ⟨_, rfl⟩
  have HV2 : Hid (V2 = w2.setCell ⟨w.heap.size + 1 + 1, 3, none⟩ (.slice (some ⟨V1.heap.size, 0, none⟩) s.length s.length)) := hV2
  have hsV2 : V2.heap.size = w2.heap.size := by rw [hV2]; simp [World.setCell]
  have hBV2 : Below w.heap.size w V2 := by rw [hV2]; exact hB2.setCell (p := ⟨w.heap.size + 1 + 1, 3, none⟩) (by simp; omega) _
  have A4 := A3.other ⟨w.heap.size + 1 + 1, 3, none⟩ (by simp; omega) (.slice (some ⟨V1.heap.size, 0, none⟩) s.length s.length)
  rw [← hV2] at A4
  have R4 := R3.other ⟨w.heap.size + 1 + 1, 3, none⟩ (by simp) (.slice (some ⟨V1.heap.size, 0, none⟩) s.length s.length)
  rw [← hV2] at R4
  have O4 := O3.set3 (.slice (some ⟨V1.heap.size, 0, none⟩) s.length s.length)
  rw [← hV2] at O4
  have F4 : Hid (FreshI W0.heap.size w1.heap.size V2 (some ⟨W0.heap.size, 0, none⟩) b.length b ∧ FreshC V1.heap.size w2.heap.size V2 (some ⟨V1.heap.size, 0, none⟩) s.length s) := by
    rw [hV2]; exact ⟨F3.out.1.setBelow (by simp; have := HS0.out; omega) _, F3.out.2.setBelow (by simp; have := HS0.out; have := HSV1.out; omega) _⟩
  have HSV2 : Hid (V2.heap.size = w2.heap.size) := hsV2
  clear hV2 hsV2 A3 R3 O3 F3 hB2
  go_wp2_with fail
  rw [← HV2.out]
  refine (toWaiterS_any ro rc r _ hlr (hz.2.2.later hBV2)).mono ?_
  rintro e w3 ⟨rfl, hT3, hb3⟩
  have hB3 := hBV2.trans (hb3.mono hBV2.size)
  have R5 := R4.later hb3
  have O5 := O4.later hb3
  have F5 : Hid (FreshI W0.heap.size w1.heap.size w3 (some ⟨W0.heap.size, 0, none⟩) b.length b ∧ FreshC V1.heap.size w2.heap.size w3 (some ⟨V1.heap.size, 0, none⟩) s.length s ∧ FreshC V2.heap.size w3.heap.size w3 (some ⟨V2.heap.size, 0, none⟩) r.length r) := ⟨F4.out.1.later hb3, F4.out.2.later hb3, hT3⟩
  clear a0 a1 a2 a3 a4 o0 o1 o2 o3 o4 of0 of1 of2 of3 of4 HV2 hT3 A4 R4 O4 F4
  have hsz3 := hb3.size
  clear hb3
  obtain ⟨⟨_, r0, r1, r2, r3, r4⟩, rf0, rf1, rf2, rf3, rf4⟩ := id R5
  obtain ⟨⟨_, o0, o1, o2, o3, o4⟩, of0, of1, of2, of3, of4⟩ := id O5
  have HSZ : Hid (w.heap.size + 1 + 1 + 1 ≤ W0.heap.size ∧ W0.heap.size ≤ V1.heap.size ∧ w1.heap.size ≤ w3.heap.size ∧ V1.heap.size ≤ V2.heap.size ∧ w2.heap.size ≤ V2.heap.size ∧ w2.heap.size ≤ w3.heap.size) := by have := HS0.out; have := HSV1.out; have := HSV2.out; refine ⟨?_, ?_, ?_, ?_, ?_, ?_⟩ <;> omega
  clear hsz1 hsz2 hsz3
  go_wp2
  refine bodyPost_ret (v := .agg #[.int .i64 kap, .bool cl, .slice (some ⟨W0.heap.size, 0, none⟩) b.length b.length, .slice (some ⟨V1.heap.size, 0, none⟩) s.length s.length, .slice (some ⟨V2.heap.size, 0, none⟩) r.length r.length]) (by simp [results, Try.results17, go_sem, r0, r1, r2, r3, r4]) rfl ⟨_, _, _, rfl, ?_, ?_⟩
  · obtain ⟨q1, q2, q3, q4, q5, q6⟩ := HSZ.out
    have h0 : FreshCh (w.heap.size + 1 + 1 + 1) w3.heap.size w3 (some ⟨W0.heap.size, 0, none⟩) b.length b (some ⟨V1.heap.size, 0, none⟩) s.length s (some ⟨V2.heap.size, 0, none⟩) r.length r :=
      ⟨F5.out.1.wide q1 q3, F5.out.2.1.wide (by omega) q6, F5.out.2.2.wide (by omega) (Nat.le_refl _), apart_of F5.out.2.1 F5.out.2.2 q5⟩
    exact ((((((h0.setBelow (a := ⟨w.heap.size + 1 + 1, 4, none⟩) (by simp) _).setBelow (a := ⟨w.heap.size + 1, 0, none⟩) (by simp) _).setBelow (a := ⟨w.heap.size + 1, 1, none⟩) (by simp) _).setBelow (a := ⟨w.heap.size + 1, 2, none⟩) (by simp) _).setBelow (a := ⟨w.heap.size + 1, 3, none⟩) (by simp) _).setBelow (a := ⟨w.heap.size + 1, 4, none⟩) (by simp) _).wide (by omega) (by simp)
  · exact (((((hB3.setCell (p := ⟨w.heap.size + 1 + 1, 4, none⟩) (by simp; omega) _).setCell (p := ⟨w.heap.size + 1, 0, none⟩) (by simp) _).setCell (p := ⟨w.heap.size + 1, 1, none⟩) (by simp) _).setCell (p := ⟨w.heap.size + 1, 2, none⟩) (by simp) _).setCell (p := ⟨w.heap.size + 1, 3, none⟩) (by simp) _).setCell (p := ⟨w.heap.size + 1, 4, none⟩) (by simp) _

set_option maxHeartbeats 2000000 in
theorem eqChan_same (kap : Int) (cl : Bool) (bo : Option Addr) (bc : Nat) (b : List Int) (so : Option Addr) (sc : Nat) (s : List T3) (ro : Option Addr) (rc : Nat) (r : List T3) (bo' : Option Addr) (bc' : Nat) (so' : Option Addr) (sc' : Nat) (ro' : Option Addr) (rc' : Nat) (w : World) (hl : b.length ≤ 1048576) (hls : s.length ≤ 1048576) (hlr : r.length ≤ 1048576)
    (hz : ChanIn w.heap.size w bo b so s ro r) (hz' : ChanIn w.heap.size w bo' b so' s ro' r) :
    Calls Try.prog 19 #[.agg #[.int .i64 kap, .bool cl, .slice bo b.length bc, .slice so s.length sc, .slice ro r.length rc], .agg #[.int .i64 kap, .bool cl, .slice bo' b.length bc', .slice so' s.length sc', .slice ro' r.length rc']] w fun e w' => e = .returned (.bool true) ∧ Below w.heap.size w w' := by
  have h1 : (kap != kap) = false := by simp
  have h2 : (cl != cl) = false := by simp
  have hB0 := below2 w (.cells #[.int .i64 kap, .bool cl, .slice bo b.length bc, .slice so s.length sc, .slice ro r.length rc] 26) (.cells #[.int .i64 kap, .bool cl, .slice bo' b.length bc', .slice so' s.length sc', .slice ro' r.length rc'] 26)
  have X0 := (Box5.new w (.int .i64 kap) (.bool cl) (.slice bo b.length bc) (.slice so s.length sc) (.slice ro r.length rc) 26).later (below1 _ (.cells #[.int .i64 kap, .bool cl, .slice bo' b.length bc', .slice so' s.length sc', .slice ro' r.length rc'] 26))
  have Y0 := Box5.new (w.alloc (.cells #[.int .i64 kap, .bool cl, .slice bo b.length bc, .slice so s.length sc, .slice ro r.length rc] 26)) (.int .i64 kap) (.bool cl) (.slice bo' b.length bc') (.slice so' s.length sc') (.slice ro' r.length rc') 26
  rw [World.size_alloc] at Y0
  go_enter Try.func19, Try.ntmps19
  go_wp2_with fail
  refine (eqIntS_same bo bo' bc bc' b _ hl (hz.1.later hB0) (hz'.1.later hB0)).mono ?_
  rintro e w1 ⟨rfl, hb1⟩
  have hB1 := hB0.trans (hb1.mono (by simp; omega))
  have X1 := X0.later hb1
  have Y1 := Y0.later hb1
  obtain ⟨_, x0, x1, x2, x3, x4⟩ := id X1
  obtain ⟨_, y0, y1, y2, y3, y4⟩ := id Y1
  clear hb1 X0 Y0 hB0
  go_wp2_with fail
  refine (eqWaiterS_same so so' sc sc' s _ hls (hz.2.1.later hB1) (hz'.2.1.later hB1)).mono ?_
  rintro e w2 ⟨rfl, hb2⟩
  have hB2 := hB1.trans (hb2.mono hB1.size)
  have X2 := X1.later hb2
  have Y2 := Y1.later hb2
  clear hb2 x0 x1 x2 x3 x4 y0 y1 y2 y3 y4 X1 Y1
  obtain ⟨_, x0, x1, x2, x3, x4⟩ := id X2
  obtain ⟨_, y0, y1, y2, y3, y4⟩ := id Y2
  go_wp2_with fail
  refine (eqWaiterS_same ro ro' rc rc' r _ hlr (hz.2.2.later hB2) (hz'.2.2.later hB2)).mono ?_
  rintro e w3 ⟨rfl, hb3⟩
  have hB3 := hB2.trans (hb3.mono hB2.size)
  clear hb3
  go_wp2
  go_ret
  exact ⟨rfl, hB3⟩
end Go.Proofs.Ytlnjhajdbofhlaa
