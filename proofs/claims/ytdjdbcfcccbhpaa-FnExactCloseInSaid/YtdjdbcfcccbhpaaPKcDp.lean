/- Channels: copies, comparisons. No conditions but those written. Rows of things that have rows of their own. No conditions but those written. -/
import Derived.Test.YtdjdbcfcccbhpaaPKwBx
import Derived.Test.YtdjdbcfcccbhpaaGen
namespace Go.Proofs.Ytdjdbcfcccbhpaa
section
open Go.RowKit

theorem Kind.Fresh.setOff {α : Type} {K : Kind α} {lo hi : Nat} {W : World} {qo : Option Addr} {qc : Nat} {q : List α} (h : K.Fresh lo hi W qo qc q) {a : Addr} (ha : a.block < lo ∨ hi ≤ a.block) (u : Value) : K.Fresh lo hi (W.setCell a u) qo qc q := h.keep fun k h1 h2 _ => Below.heap_setCell W a u k (by omega)
theorem Kind.Fresh.notNew {α : Type} {K : Kind α} {lo hi : Nat} {W : World} {qo : Option Addr} {qc : Nat} {q : List α} (h : K.Fresh lo hi W qo qc q) {g : Nat} (e : eff qo q.length = some ⟨g, 0, none⟩) : W.heap.size ≠ g := by
  rcases h with rfl | ⟨g2, e2, hg, ho⟩
  · simp [eff] at e
  · unfold eff at e
    split at e
    · cases e
    · rw [e2] at e; simp at e; subst e
      have := (owns_lt ho).2; omega
/-- What lies behind a Chan. -/
def InChan (n : Nat) (W : World) (bo : Option Addr) (b : List (Int)) (so : Option Addr) (s : List (Int × Int × Int)) (ro : Option Addr) (r : List (Int × Int × Int)) : Prop := kI.In n W bo b ∧ kW.In n W so s ∧ kW.In n W ro r
/-- What lies behind a Chan, in memory of its own. -/
def FrChan (lo hi : Nat) (W : World) (bo : Option Addr) (bc : Nat) (b : List (Int)) (so : Option Addr) (sc : Nat) (s : List (Int × Int × Int)) (ro : Option Addr) (rc : Nat) (r : List (Int × Int × Int)) : Prop := kI.Fresh lo hi W bo bc b ∧ kW.Fresh lo hi W so sc s ∧ kW.Fresh lo hi W ro rc r ∧ Off so s.length ro r.length
theorem InChan.later {W W' : World} {bo : Option Addr} {b : List (Int)} {so : Option Addr} {s : List (Int × Int × Int)} {ro : Option Addr} {r : List (Int × Int × Int)} (h : InChan W.heap.size W bo b so s ro r) (hb : Below W.heap.size W W') : InChan W'.heap.size W' bo b so s ro r := ⟨h.1.later hb, h.2.1.later hb, h.2.2.later hb⟩
theorem InChan.below {n : Nat} {W W' : World} {bo : Option Addr} {b : List (Int)} {so : Option Addr} {s : List (Int × Int × Int)} {ro : Option Addr} {r : List (Int × Int × Int)} (h : InChan n W bo b so s ro r) (hb : Below n W W') : InChan n W' bo b so s ro r := ⟨h.1.below hb, h.2.1.below hb, h.2.2.below hb⟩
theorem FrChan.in {lo hi : Nat} {W : World} {bo : Option Addr} {bc : Nat} {b : List (Int)} {so : Option Addr} {sc : Nat} {s : List (Int × Int × Int)} {ro : Option Addr} {rc : Nat} {r : List (Int × Int × Int)} (h : FrChan lo hi W bo bc b so sc s ro rc r) : InChan W.heap.size W bo b so s ro r := ⟨h.1.in, h.2.1.in, h.2.2.1.in⟩
theorem FrChan.later {lo hi : Nat} {W W' : World} {bo : Option Addr} {bc : Nat} {b : List (Int)} {so : Option Addr} {sc : Nat} {s : List (Int × Int × Int)} {ro : Option Addr} {rc : Nat} {r : List (Int × Int × Int)} (h : FrChan lo hi W bo bc b so sc s ro rc r) (hb : Below W.heap.size W W') : FrChan lo hi W' bo bc b so sc s ro rc r := ⟨h.1.later hb, h.2.1.later hb, h.2.2.1.later hb, h.2.2.2⟩
theorem FrChan.keep {lo hi : Nat} {W W' : World} {bo : Option Addr} {bc : Nat} {b : List (Int)} {so : Option Addr} {sc : Nat} {s : List (Int × Int × Int)} {ro : Option Addr} {rc : Nat} {r : List (Int × Int × Int)} (h : FrChan lo hi W bo bc b so sc s ro rc r) (hk : ∀ k, lo ≤ k → k < hi → k < W.heap.size → W'.heap[k]? = W.heap[k]?) : FrChan lo hi W' bo bc b so sc s ro rc r := ⟨h.1.keep hk, h.2.1.keep hk, h.2.2.1.keep hk, h.2.2.2⟩
theorem FrChan.wide {lo hi lo' hi' : Nat} {W : World} {bo : Option Addr} {bc : Nat} {b : List (Int)} {so : Option Addr} {sc : Nat} {s : List (Int × Int × Int)} {ro : Option Addr} {rc : Nat} {r : List (Int × Int × Int)} (h : FrChan lo hi W bo bc b so sc s ro rc r) (h1 : lo' ≤ lo) (h2 : hi ≤ hi') : FrChan lo' hi' W bo bc b so sc s ro rc r := ⟨h.1.wide h1 h2, h.2.1.wide h1 h2, h.2.2.1.wide h1 h2, h.2.2.2⟩
theorem FrChan.low {lo hi : Nat} {W : World} {bo : Option Addr} {bc : Nat} {b : List (Int)} {so : Option Addr} {sc : Nat} {s : List (Int × Int × Int)} {ro : Option Addr} {rc : Nat} {r : List (Int × Int × Int)} (h : FrChan lo hi W bo bc b so sc s ro rc r) {hi' : Nat} (h2 : W.heap.size ≤ hi') : FrChan lo hi' W bo bc b so sc s ro rc r := ⟨h.1.low h2, h.2.1.low h2, h.2.2.1.low h2, h.2.2.2⟩
theorem FrChan.setBelow {lo hi : Nat} {W : World} {bo : Option Addr} {bc : Nat} {b : List (Int)} {so : Option Addr} {sc : Nat} {s : List (Int × Int × Int)} {ro : Option Addr} {rc : Nat} {r : List (Int × Int × Int)} (h : FrChan lo hi W bo bc b so sc s ro rc r) {a : Addr} (ha : a.block < lo) (u : Value) : FrChan lo hi (W.setCell a u) bo bc b so sc s ro rc r := ⟨h.1.setBelow ha u, h.2.1.setBelow ha u, h.2.2.1.setBelow ha u, h.2.2.2⟩
theorem FrChan.setAbove {lo hi : Nat} {W : World} {bo : Option Addr} {bc : Nat} {b : List (Int)} {so : Option Addr} {sc : Nat} {s : List (Int × Int × Int)} {ro : Option Addr} {rc : Nat} {r : List (Int × Int × Int)} (h : FrChan lo hi W bo bc b so sc s ro rc r) {a : Addr} (ha : hi ≤ a.block) (u : Value) : FrChan lo hi (W.setCell a u) bo bc b so sc s ro rc r := ⟨h.1.setAbove ha u, h.2.1.setAbove ha u, h.2.2.1.setAbove ha u, h.2.2.2⟩
theorem FrChan.setOff {lo hi : Nat} {W : World} {bo : Option Addr} {bc : Nat} {b : List (Int)} {so : Option Addr} {sc : Nat} {s : List (Int × Int × Int)} {ro : Option Addr} {rc : Nat} {r : List (Int × Int × Int)} (h : FrChan lo hi W bo bc b so sc s ro rc r) {a : Addr} (ha : a.block < lo ∨ hi ≤ a.block) (u : Value) : FrChan lo hi (W.setCell a u) bo bc b so sc s ro rc r := ⟨h.1.setOff ha u, h.2.1.setOff ha u, h.2.2.1.setOff ha u, h.2.2.2⟩
theorem FrChan.between' {lo hi lo' hi' : Nat} {W W' : World} {bo : Option Addr} {bc : Nat} {b : List (Int)} {so : Option Addr} {sc : Nat} {s : List (Int × Int × Int)} {ro : Option Addr} {rc : Nat} {r : List (Int × Int × Int)} (h : FrChan lo hi W bo bc b so sc s ro rc r) (hb : Between lo' hi' W W') (hd : hi ≤ lo' ∨ hi' ≤ lo) : FrChan lo hi W' bo bc b so sc s ro rc r := ⟨h.1.between' hb hd, h.2.1.between' hb hd, h.2.2.1.between' hb hd, h.2.2.2⟩
set_option maxRecDepth 10000 in
set_option maxHeartbeats 4000000 in
theorem toChan_any (kap : Int) (cl : Bool) (bo : Option Addr) (bc : Nat) (b : List (Int)) (so : Option Addr) (sc : Nat) (s : List (Int × Int × Int)) (ro : Option Addr) (rc : Nat) (r : List (Int × Int × Int)) (w : World) (hlb : b.length ≤ 1048576) (hls : s.length ≤ 1048576) (hlr : r.length ≤ 1048576) (hz : InChan w.heap.size w bo b so s ro r) :
    Calls Try.prog 38 #[.agg #[.int .i64 kap, .bool cl, .slice bo b.length bc, .slice so s.length sc, .slice ro r.length rc]] w fun e w' => ∃ gb gs gr, e = .returned (.agg #[.int .i64 kap, .bool cl, .slice (some ⟨gb, 0, none⟩) b.length b.length, .slice (some ⟨gs, 0, none⟩) s.length s.length, .slice (some ⟨gr, 0, none⟩) r.length r.length]) ∧ FrChan w.heap.size w'.heap.size w' (some ⟨gb, 0, none⟩) b.length b (some ⟨gs, 0, none⟩) s.length s (some ⟨gr, 0, none⟩) r.length r ∧ Below w.heap.size w w' := by
  go_enter Try.func38, Try.ntmps38
  go_wp2_with fail
  obtain ⟨V0, hV0⟩ : ∃ V0, V0 = (((w.alloc (.cells #[.int .i64 kap, .bool cl, .slice bo b.length bc, .slice so s.length sc, .slice ro r.length rc] 63)).alloc (.cells #[.int .i64 0, .bool false, .slice none 0 0, .slice none 0 0, .slice none 0 0] 45)).alloc (.cells #[.int .i64 kap, .bool cl, .slice none 0 0, .slice none 0 0, .slice none 0 0] 45)) := ⟨_, rfl⟩
  rw [← hV0]
  have hs0 : V0.heap.size = w.heap.size + 1 + 1 + 1 := by rw [hV0]; simp
  have hB0 : Below w.heap.size w V0 := by rw [hV0]; exact below3 _ _ _ _
  have A0 : Hid (Bx V0 (w.heap.size) [.int .i64 kap, .bool cl, .slice bo b.length bc, .slice so s.length sc, .slice ro r.length rc]) := by rw [hV0]; exact ((Bx.new [.int .i64 kap, .bool cl, .slice bo b.length bc, .slice so s.length sc, .slice ro r.length rc] _ rfl).alloc _).alloc _
  have R0 : Hid (Bx V0 (w.heap.size + 1) [.int .i64 0, .bool false, .slice none 0 0, .slice none 0 0, .slice none 0 0]) := by rw [hV0]; exact (Bx.new [.int .i64 0, .bool false, .slice none 0 0, .slice none 0 0, .slice none 0 0] _ (by simp)).alloc _
  have O0 : Hid (Bx V0 (w.heap.size + 1 + 1) [.int .i64 kap, .bool cl, .slice none 0 0, .slice none 0 0, .slice none 0 0]) := by rw [hV0]; exact Bx.new [.int .i64 kap, .bool cl, .slice none 0 0, .slice none 0 0, .slice none 0 0] _ (by simp)
  clear hV0
  have HS0 : Hid (V0.heap.size = w.heap.size + 1 + 1 + 1) := hs0
  clear hs0
  refine (toIntS_any bo bc b _ hlb (hz.1.later hB0)).mono ?_
  rintro e w1 ⟨rfl, hT0, hb0⟩
  obtain ⟨gb, hgb⟩ : ∃ g, g = V0.heap.size := ⟨_, rfl⟩
  rw [← hgb] at hT0 ⊢
  have HG0 : Hid (gb = V0.heap.size) := hgb
  clear hgb
  have hBw0 := hB0.trans (hb0.mono hB0.size)
  have Aw0 := hid (A0.out.later hb0)
  have Rw0 := hid (R0.out.later hb0)
  have Ow0 := hid (O0.out.later hb0)
  have Fy0 : Hid (kI.Fresh gb w1.heap.size w1 (some ⟨gb, 0, none⟩) b.length b) := hT0
  have HZ0 : Hid (V0.heap.size ≤ w1.heap.size) := hb0.size
  clear hT0 hb0 A0 R0 O0 hB0
  have a0 := Aw0.out.c 0 rfl
  have o0 := Ow0.out.c 0 rfl
  have of0 := Ow0.out.f 0 rfl
  have a1 := Aw0.out.c 1 rfl
  have o1 := Ow0.out.c 1 rfl
  have of1 := Ow0.out.f 1 rfl
  have a2 := Aw0.out.c 2 rfl
  have o2 := Ow0.out.c 2 rfl
  have of2 := Ow0.out.f 2 rfl
  have a3 := Aw0.out.c 3 rfl
  have o3 := Ow0.out.c 3 rfl
  have of3 := Ow0.out.f 3 rfl
  have a4 := Aw0.out.c 4 rfl
  have o4 := Ow0.out.c 4 rfl
  have of4 := Ow0.out.f 4 rfl
  obtain ⟨V1, hV1⟩ : ∃ V, V = (w1.setCell ⟨w.heap.size + 1 + 1, 2, none⟩ (.slice (some ⟨gb, 0, none⟩) b.length b.length)) := ⟨_, rfl⟩
  have HV1 : Hid (V1 = (w1.setCell ⟨w.heap.size + 1 + 1, 2, none⟩ (.slice (some ⟨gb, 0, none⟩) b.length b.length))) := hV1
  have hB1 : Below w.heap.size w V1 := by rw [hV1]; exact (hBw0.setCell (p := ⟨w.heap.size + 1 + 1, 2, none⟩) (by simp; omega) _)
  have A1 : Hid (Bx V1 (w.heap.size) [.int .i64 kap, .bool cl, .slice bo b.length bc, .slice so s.length sc, .slice ro r.length rc]) := by rw [hV1]; exact (Aw0.out.other (a := ⟨w.heap.size + 1 + 1, 2, none⟩) (by simp; omega) (.slice (some ⟨gb, 0, none⟩) b.length b.length))
  have R1 : Hid (Bx V1 (w.heap.size + 1) [.int .i64 0, .bool false, .slice none 0 0, .slice none 0 0, .slice none 0 0]) := by rw [hV1]; exact (Rw0.out.other (a := ⟨w.heap.size + 1 + 1, 2, none⟩) (by simp) (.slice (some ⟨gb, 0, none⟩) b.length b.length))
  have O1 : Hid (Bx V1 (w.heap.size + 1 + 1) [.int .i64 kap, .bool cl, .slice (some ⟨gb, 0, none⟩) b.length b.length, .slice none 0 0, .slice none 0 0]) := by rw [hV1]; exact (Ow0.out.set 2 (.slice (some ⟨gb, 0, none⟩) b.length b.length))
  have HL0 : Hid (w.heap.size + 1 + 1 < gb) := by have := HS0.out; have := HG0.out; unfold Hid; omega
  have Fz1 : Hid (kI.Fresh gb w1.heap.size V1 (some ⟨gb, 0, none⟩) b.length b) := by rw [hV1]; exact (Fy0.out.setBelow (a := ⟨w.heap.size + 1 + 1, 2, none⟩) HL0.out (.slice (some ⟨gb, 0, none⟩) b.length b.length))
  have HSV1 : Hid (V1.heap.size = w1.heap.size) := by rw [hV1]; simp [World.setCell, Hid]
  clear hV1 Aw0 Rw0 Ow0 Fy0 hBw0 HL0
  go_wp2_with fail
  rw [← HV1.out]
  refine (toWaiterS_any so sc s _ hls (hz.2.1.later hB1)).mono ?_
  rintro e w2 ⟨rfl, hT1, hb1⟩
  obtain ⟨gs, hgs⟩ : ∃ g, g = V1.heap.size := ⟨_, rfl⟩
  rw [← hgs] at hT1 ⊢
  have HG1 : Hid (gs = V1.heap.size) := hgs
  clear hgs
  have hBw1 := hB1.trans (hb1.mono hB1.size)
  have Aw1 := hid (A1.out.later hb1)
  have Rw1 := hid (R1.out.later hb1)
  have Ow1 := hid (O1.out.later hb1)
  have Fy1 : Hid (kI.Fresh gb w1.heap.size w2 (some ⟨gb, 0, none⟩) b.length b ∧ kW.Fresh gs w2.heap.size w2 (some ⟨gs, 0, none⟩) s.length s) := ⟨Fz1.out.later hb1, hT1⟩
  have HZ1 : Hid (V1.heap.size ≤ w2.heap.size) := hb1.size
  clear hT1 hb1 A1 R1 O1 hB1 Fz1
  clear a0 o0 of0 a1 o1 of1 a2 o2 of2 a3 o3 of3 a4 o4 of4
  have a0 := Aw1.out.c 0 rfl
  have o0 := Ow1.out.c 0 rfl
  have of0 := Ow1.out.f 0 rfl
  have a1 := Aw1.out.c 1 rfl
  have o1 := Ow1.out.c 1 rfl
  have of1 := Ow1.out.f 1 rfl
  have a2 := Aw1.out.c 2 rfl
  have o2 := Ow1.out.c 2 rfl
  have of2 := Ow1.out.f 2 rfl
  have a3 := Aw1.out.c 3 rfl
  have o3 := Ow1.out.c 3 rfl
  have of3 := Ow1.out.f 3 rfl
  have a4 := Aw1.out.c 4 rfl
  have o4 := Ow1.out.c 4 rfl
  have of4 := Ow1.out.f 4 rfl
  obtain ⟨V2, hV2⟩ : ∃ V, V = (w2.setCell ⟨w.heap.size + 1 + 1, 3, none⟩ (.slice (some ⟨gs, 0, none⟩) s.length s.length)) := ⟨_, rfl⟩
  have HV2 : Hid (V2 = (w2.setCell ⟨w.heap.size + 1 + 1, 3, none⟩ (.slice (some ⟨gs, 0, none⟩) s.length s.length))) := hV2
  have hB2 : Below w.heap.size w V2 := by rw [hV2]; exact (hBw1.setCell (p := ⟨w.heap.size + 1 + 1, 3, none⟩) (by simp; omega) _)
  have A2 : Hid (Bx V2 (w.heap.size) [.int .i64 kap, .bool cl, .slice bo b.length bc, .slice so s.length sc, .slice ro r.length rc]) := by rw [hV2]; exact (Aw1.out.other (a := ⟨w.heap.size + 1 + 1, 3, none⟩) (by simp; omega) (.slice (some ⟨gs, 0, none⟩) s.length s.length))
  have R2 : Hid (Bx V2 (w.heap.size + 1) [.int .i64 0, .bool false, .slice none 0 0, .slice none 0 0, .slice none 0 0]) := by rw [hV2]; exact (Rw1.out.other (a := ⟨w.heap.size + 1 + 1, 3, none⟩) (by simp) (.slice (some ⟨gs, 0, none⟩) s.length s.length))
  have O2 : Hid (Bx V2 (w.heap.size + 1 + 1) [.int .i64 kap, .bool cl, .slice (some ⟨gb, 0, none⟩) b.length b.length, .slice (some ⟨gs, 0, none⟩) s.length s.length, .slice none 0 0]) := by rw [hV2]; exact (Ow1.out.set 3 (.slice (some ⟨gs, 0, none⟩) s.length s.length))
  have HL0 : Hid (w.heap.size + 1 + 1 < gb) := by have := HS0.out; have := HG0.out; unfold Hid; omega
  have HL1 : Hid (w.heap.size + 1 + 1 < gs) := by have := HS0.out; have := HG0.out;  have := HG1.out; have := HZ0.out; have := HSV1.out; unfold Hid; omega
  have Fz2 : Hid (kI.Fresh gb w1.heap.size V2 (some ⟨gb, 0, none⟩) b.length b ∧ kW.Fresh gs w2.heap.size V2 (some ⟨gs, 0, none⟩) s.length s) := by rw [hV2]; exact ⟨(Fy1.out.1.setBelow (a := ⟨w.heap.size + 1 + 1, 3, none⟩) HL0.out (.slice (some ⟨gs, 0, none⟩) s.length s.length)), (Fy1.out.2.setBelow (a := ⟨w.heap.size + 1 + 1, 3, none⟩) HL1.out (.slice (some ⟨gs, 0, none⟩) s.length s.length))⟩
  have HSV2 : Hid (V2.heap.size = w2.heap.size) := by rw [hV2]; simp [World.setCell, Hid]
  clear hV2 Aw1 Rw1 Ow1 Fy1 hBw1 HL0 HL1
  go_wp2_with fail
  rw [← HV2.out]
  refine (toWaiterS_any ro rc r _ hlr (hz.2.2.later hB2)).mono ?_
  rintro e w3 ⟨rfl, hT2, hb2⟩
  obtain ⟨gr, hgr⟩ : ∃ g, g = V2.heap.size := ⟨_, rfl⟩
  rw [← hgr] at hT2 ⊢
  have HG2 : Hid (gr = V2.heap.size) := hgr
  clear hgr
  have hBw2 := hB2.trans (hb2.mono hB2.size)
  have Aw2 := hid (A2.out.later hb2)
  have Rw2 := hid (R2.out.later hb2)
  have Ow2 := hid (O2.out.later hb2)
  have Fy2 : Hid (kI.Fresh gb w1.heap.size w3 (some ⟨gb, 0, none⟩) b.length b ∧ kW.Fresh gs w2.heap.size w3 (some ⟨gs, 0, none⟩) s.length s ∧ kW.Fresh gr w3.heap.size w3 (some ⟨gr, 0, none⟩) r.length r) := ⟨Fz2.out.1.later hb2, Fz2.out.2.later hb2, hT2⟩
  have HZ2 : Hid (V2.heap.size ≤ w3.heap.size) := hb2.size
  clear hT2 hb2 A2 R2 O2 hB2 Fz2
  clear a0 o0 of0 a1 o1 of1 a2 o2 of2 a3 o3 of3 a4 o4 of4
  have a0 := Aw2.out.c 0 rfl
  have o0 := Ow2.out.c 0 rfl
  have of0 := Ow2.out.f 0 rfl
  have a1 := Aw2.out.c 1 rfl
  have o1 := Ow2.out.c 1 rfl
  have of1 := Ow2.out.f 1 rfl
  have a2 := Aw2.out.c 2 rfl
  have o2 := Ow2.out.c 2 rfl
  have of2 := Ow2.out.f 2 rfl
  have a3 := Aw2.out.c 3 rfl
  have o3 := Ow2.out.c 3 rfl
  have of3 := Ow2.out.f 3 rfl
  have a4 := Aw2.out.c 4 rfl
  have o4 := Ow2.out.c 4 rfl
  have of4 := Ow2.out.f 4 rfl
  have r0 := Rw2.out.c 0 rfl
  have rf0 := Rw2.out.f 0 rfl
  have r1 := Rw2.out.c 1 rfl
  have rf1 := Rw2.out.f 1 rfl
  have r2 := Rw2.out.c 2 rfl
  have rf2 := Rw2.out.f 2 rfl
  have r3 := Rw2.out.c 3 rfl
  have rf3 := Rw2.out.f 3 rfl
  have r4 := Rw2.out.c 4 rfl
  have rf4 := Rw2.out.f 4 rfl
  go_wp2
  refine bodyPost_ret (v := .agg #[.int .i64 kap, .bool cl, .slice (some ⟨gb, 0, none⟩) b.length b.length, .slice (some ⟨gs, 0, none⟩) s.length s.length, .slice (some ⟨gr, 0, none⟩) r.length r.length]) (by simp [results, Try.results38, go_sem, r0, r1, r2, r3, r4]) rfl ⟨_, _, _, rfl, ?_, ?_⟩
  · have := HS0.out
    have := HG0.out
    have := HG1.out
    have := HG2.out
    have := HZ0.out
    have := HZ1.out
    have := HZ2.out
    have := HSV1.out
    have := HSV2.out
    have h0 : FrChan (w.heap.size + 1 + 1 + 1) w3.heap.size w3 (some ⟨gb, 0, none⟩) b.length b (some ⟨gs, 0, none⟩) s.length s (some ⟨gr, 0, none⟩) r.length r := ⟨Fy2.out.1.wide (by omega) (by omega), Fy2.out.2.1.wide (by omega) (by omega), Fy2.out.2.2.wide (by omega) (by omega), Kind.Fresh.apart (Fy2.out.2.1) (Fy2.out.2.2) (by omega)⟩
    exact ((((((h0.setBelow (a := ⟨w.heap.size + 1 + 1, 4, none⟩) (by simp) _).setBelow (a := ⟨w.heap.size + 1, 0, none⟩) (by simp) _).setBelow (a := ⟨w.heap.size + 1, 1, none⟩) (by simp) _).setBelow (a := ⟨w.heap.size + 1, 2, none⟩) (by simp) _).setBelow (a := ⟨w.heap.size + 1, 3, none⟩) (by simp) _).setBelow (a := ⟨w.heap.size + 1, 4, none⟩) (by simp) _).wide (by omega) (by simp)
  · exact ((((((hBw2.setCell (p := ⟨w.heap.size + 1 + 1, 4, none⟩) (by simp; omega) _).setCell (p := ⟨w.heap.size + 1, 0, none⟩) (by simp) _).setCell (p := ⟨w.heap.size + 1, 1, none⟩) (by simp) _).setCell (p := ⟨w.heap.size + 1, 2, none⟩) (by simp) _).setCell (p := ⟨w.heap.size + 1, 3, none⟩) (by simp) _).setCell (p := ⟨w.heap.size + 1, 4, none⟩) (by simp) _)
set_option maxHeartbeats 2000000 in
theorem eqChan_same (kap : Int) (cl : Bool) (bo : Option Addr) (bc : Nat) (b : List (Int)) (so : Option Addr) (sc : Nat) (s : List (Int × Int × Int)) (ro : Option Addr) (rc : Nat) (r : List (Int × Int × Int)) (bo' : Option Addr) (bc' : Nat) (so' : Option Addr) (sc' : Nat) (ro' : Option Addr) (rc' : Nat) (w : World) (hlb : b.length ≤ 1048576) (hls : s.length ≤ 1048576) (hlr : r.length ≤ 1048576) (hz : InChan w.heap.size w bo b so s ro r) (hz' : InChan w.heap.size w bo' b so' s ro' r) :
    Calls Try.prog 45 #[.agg #[.int .i64 kap, .bool cl, .slice bo b.length bc, .slice so s.length sc, .slice ro r.length rc], .agg #[.int .i64 kap, .bool cl, .slice bo' b.length bc', .slice so' s.length sc', .slice ro' r.length rc']] w fun e w' => e = .returned (.bool true) ∧ Below w.heap.size w w' := by
  have hkap : (kap != kap) = false := by simp
  have hcl : (cl != cl) = false := by simp
  have hB0 := below2 w (.cells #[.int .i64 kap, .bool cl, .slice bo b.length bc, .slice so s.length sc, .slice ro r.length rc] 45) (.cells #[.int .i64 kap, .bool cl, .slice bo' b.length bc', .slice so' s.length sc', .slice ro' r.length rc'] 45)
  have X0 := hid ((Bx.new (w := w) [.int .i64 kap, .bool cl, .slice bo b.length bc, .slice so s.length sc, .slice ro r.length rc] 45 rfl).alloc (.cells #[.int .i64 kap, .bool cl, .slice bo' b.length bc', .slice so' s.length sc', .slice ro' r.length rc'] 45))
  have Y0 := hid (Bx.new (w := w.alloc (.cells #[.int .i64 kap, .bool cl, .slice bo b.length bc, .slice so s.length sc, .slice ro r.length rc] 45)) (p := w.heap.size + 1) [.int .i64 kap, .bool cl, .slice bo' b.length bc', .slice so' s.length sc', .slice ro' r.length rc'] 45 (by simp))
  go_enter Try.func45, Try.ntmps45
  go_wp2_with fail
  refine (eqIntS_same bo bo' bc bc' b _ hlb (hz.1.later hB0) (hz'.1.later hB0)).mono ?_
  rintro e w1 ⟨rfl, hb1⟩
  have hB1 := hB0.trans (hb1.mono hB0.size)
  have X1 := hid (X0.out.later hb1)
  have Y1 := hid (Y0.out.later hb1)
  clear hb1 X0 Y0 hB0
  have x0 := X1.out.c 0 rfl
  have y0 := Y1.out.c 0 rfl
  have x1 := X1.out.c 1 rfl
  have y1 := Y1.out.c 1 rfl
  have x2 := X1.out.c 2 rfl
  have y2 := Y1.out.c 2 rfl
  have x3 := X1.out.c 3 rfl
  have y3 := Y1.out.c 3 rfl
  have x4 := X1.out.c 4 rfl
  have y4 := Y1.out.c 4 rfl
  go_wp2_with fail
  refine (eqWaiterS_same so so' sc sc' s _ hls (hz.2.1.later hB1) (hz'.2.1.later hB1)).mono ?_
  rintro e w2 ⟨rfl, hb2⟩
  have hB2 := hB1.trans (hb2.mono hB1.size)
  have X2 := hid (X1.out.later hb2)
  have Y2 := hid (Y1.out.later hb2)
  clear hb2 X1 Y1 hB1
  clear x0 y0 x1 y1 x2 y2 x3 y3 x4 y4
  have x0 := X2.out.c 0 rfl
  have y0 := Y2.out.c 0 rfl
  have x1 := X2.out.c 1 rfl
  have y1 := Y2.out.c 1 rfl
  have x2 := X2.out.c 2 rfl
  have y2 := Y2.out.c 2 rfl
  have x3 := X2.out.c 3 rfl
  have y3 := Y2.out.c 3 rfl
  have x4 := X2.out.c 4 rfl
  have y4 := Y2.out.c 4 rfl
  go_wp2_with fail
  refine (eqWaiterS_same ro ro' rc rc' r _ hlr (hz.2.2.later hB2) (hz'.2.2.later hB2)).mono ?_
  rintro e w3 ⟨rfl, hb3⟩
  have hB3 := hB2.trans (hb3.mono hB2.size)
  have X3 := hid (X2.out.later hb3)
  have Y3 := hid (Y2.out.later hb3)
  clear hb3 X2 Y2 hB2
  clear x0 y0 x1 y1 x2 y2 x3 y3 x4 y4
  have x0 := X3.out.c 0 rfl
  have y0 := Y3.out.c 0 rfl
  have x1 := X3.out.c 1 rfl
  have y1 := Y3.out.c 1 rfl
  have x2 := X3.out.c 2 rfl
  have y2 := Y3.out.c 2 rfl
  have x3 := X3.out.c 3 rfl
  have y3 := Y3.out.c 3 rfl
  have x4 := X3.out.c 4 rfl
  have y4 := Y3.out.c 4 rfl
  go_wp2
  go_ret
  exact ⟨rfl, hB3⟩
end
section
open Go.RowKit

/-- The block b is the row's own. -/
def rowOwn {α : Type} (o : Option Addr) (xs : List α) (b : Nat) : Prop := 0 < xs.length ∧ o = some ⟨b, 0, none⟩
section
variable {α : Type} {K : Kind α}
theorem Kind.Fresh.keepB {lo hi : Nat} {W W' : World} {o : Option Addr} {c : Nat} {xs : List α} (h : K.Fresh lo hi W o c xs) (hk : ∀ b, rowOwn o xs b → W'.heap[b]? = W.heap[b]?) : K.Fresh lo hi W' o c xs := by
  rcases h with h | ⟨g, e, hg, ho⟩
  · exact .inl h
  · by_cases h0 : 0 < xs.length
    · exact .inr ⟨g, e, hg, owns_block ho (hk g ⟨h0, e⟩)⟩
    · exact .inl (List.length_eq_zero_iff.1 (by omega))
theorem Kind.Fresh.lt {lo hi : Nat} {W : World} {o : Option Addr} {c : Nat} {xs : List α} (h : K.Fresh lo hi W o c xs) {b : Nat} (hb : rowOwn o xs b) : lo ≤ b ∧ b < hi ∧ b < W.heap.size ∧ ∃ cur, W.heap[b]? = some (.cells cur K.ty (0, 0)) := by
  obtain ⟨h0, e⟩ := hb
  rcases h with h | ⟨g, e2, hg, ho⟩
  · rw [h] at h0; simp at h0
  · rw [e2] at e; simp at e; subst e
    exact ⟨(owns_lt ho).1, hg, (owns_lt ho).2, owns_type ho⟩
theorem only_own {o : Option Addr} {xs : List α} {W W' : World} (h : OnlyAt (eff o xs.length) W W') {b : Nat} (hb : ¬ rowOwn o xs b) : W'.heap[b]? = W.heap[b]? := by
  refine h.block b fun g e eb => ?_
  subst eb
  unfold eff at e
  split at e
  · cases e
  · exact hb ⟨by omega, e⟩
end
/-- Things with a head of cells and rows behind it. -/
structure Deep (A : Type) where
  K : Kind A
  In : Nat → World → A → Prop
  Fr : Nat → Nat → World → A → Prop
  own : A → Nat → Prop
structure Deep.Ok {A : Type} [Inhabited A] (D : Deep A) : Prop where
  kok : D.K.Ok
  below : ∀ {n : Nat} {W W' : World} {a : A}, D.In n W a → Below n W W' → D.In n W' a
  up : ∀ {n m : Nat} {W : World} {a : A}, D.In n W a → n ≤ m → D.In m W a
  fin : ∀ {lo hi : Nat} {W : World} {a : A}, D.Fr lo hi W a → D.In W.heap.size W a
  keep : ∀ {lo hi : Nat} {W W' : World} {a : A}, D.Fr lo hi W a → (∀ b, D.own a b → W'.heap[b]? = W.heap[b]?) → D.Fr lo hi W' a
  wide : ∀ {lo hi lo' hi' : Nat} {W : World} {a : A}, D.Fr lo hi W a → lo' ≤ lo → hi ≤ hi' → D.Fr lo' hi' W a
  lt : ∀ {lo hi : Nat} {W : World} {a : A} {b : Nat}, D.Fr lo hi W a → D.own a b → lo ≤ b ∧ b < hi ∧ b < W.heap.size ∧ ∃ cur t, W.heap[b]? = some (.cells cur t (0, 0)) ∧ t ≠ D.K.ty
section
variable {A : Type} [Inhabited A] {D : Deep A}
/-- The things lie below n, their heads at ao. -/
def DIn (D : Deep A) (n : Nat) (W : World) (ao : Option Addr) (ts : List A) : Prop := D.K.In n W ao ts ∧ ∀ j, j < ts.length → D.In n W (el ts j)
theorem DIn.below (hD : D.Ok) {n : Nat} {W W' : World} {ao : Option Addr} {ts : List A} (h : DIn D n W ao ts) (hb : Below n W W') : DIn D n W' ao ts := ⟨h.1.below hb, fun j hj => hD.below (h.2 j hj) hb⟩
theorem DIn.up (hD : D.Ok) {n m : Nat} {W : World} {ao : Option Addr} {ts : List A} (h : DIn D n W ao ts) (hm : n ≤ m) : DIn D m W ao ts := ⟨h.1.up hm, fun j hj => hD.up (h.2 j hj) hm⟩
theorem DIn.later (hD : D.Ok) {W W' : World} {ao : Option Addr} {ts : List A} (h : DIn D W.heap.size W ao ts) (hb : Below W.heap.size W W') : DIn D W'.heap.size W' ao ts := (h.below hD hb).up hD hb.size
theorem DIn.nil (n : Nat) (W : World) (ao : Option Addr) : DIn D n W ao [] := ⟨.inl rfl, fun j hj => by simp at hj⟩
/-- No two of the things share a block. -/
def Parted (D : Deep A) (ts : List A) : Prop := ∀ i j, i < j → j < ts.length → ∀ b, D.own (el ts i) b → ¬ D.own (el ts j) b
/-- The things are of their own, from lo on and before hi, apart from one another; their heads too. -/
def DFr (D : Deep A) (lo hi : Nat) (W : World) (ao : Option Addr) (c : Nat) (ts : List A) : Prop := D.K.Fresh lo hi W ao c ts ∧ (∀ j, j < ts.length → D.Fr lo hi W (el ts j)) ∧ Parted D ts
variable {lo hi : Nat} {W W' : World} {ao : Option Addr} {c : Nat} {ts : List A}
theorem DFr.in (hD : D.Ok) (h : DFr D lo hi W ao c ts) : DIn D W.heap.size W ao ts := ⟨h.1.in, fun j hj => hD.fin (h.2.1 j hj)⟩
theorem DFr.keep (hD : D.Ok) (h : DFr D lo hi W ao c ts) (hk : ∀ k, lo ≤ k → k < hi → k < W.heap.size → W'.heap[k]? = W.heap[k]?) : DFr D lo hi W' ao c ts :=
  ⟨h.1.keep hk, fun j hj => hD.keep (h.2.1 j hj) fun b hb => by obtain ⟨h1, h2, h3, _⟩ := hD.lt (h.2.1 j hj) hb; exact hk b h1 h2 h3, h.2.2⟩
theorem DFr.later (hD : D.Ok) (h : DFr D lo hi W ao c ts) (hb : Below W.heap.size W W') : DFr D lo hi W' ao c ts := h.keep hD fun k _ _ hk => hb.block k hk
theorem DFr.wide (hD : D.Ok) {lo' hi' : Nat} (h : DFr D lo hi W ao c ts) (h1 : lo' ≤ lo) (h2 : hi ≤ hi') : DFr D lo' hi' W ao c ts := ⟨h.1.wide h1 h2, fun j hj => hD.wide (h.2.1 j hj) h1 h2, h.2.2⟩
theorem DFr.between' (hD : D.Ok) {lo' hi' : Nat} (h : DFr D lo hi W ao c ts) (hb : Between lo' hi' W W') (hd : hi ≤ lo' ∨ hi' ≤ lo) : DFr D lo hi W' ao c ts := h.keep hD fun k h1 h2 h3 => hb.block k h3 (by omega)
theorem DFr.nil (lo hi : Nat) (W : World) (ao : Option Addr) (c : Nat) : DFr D lo hi W ao c [] := ⟨.inl rfl, fun j hj => by simp at hj, fun i j _ hj => by simp at hj⟩
/-- A block of one of the things is no head. -/
theorem DFr.head (hD : D.Ok) (h : DFr D lo hi W ao c ts) {j b : Nat} (hj : j < ts.length) (hb : D.own (el ts j) b) : ¬ rowOwn ao ts b := by
  intro hr
  obtain ⟨_, _, _, cur, t, h1, h2⟩ := hD.lt (h.2.1 j hj) hb
  obtain ⟨_, _, _, cur', h3⟩ := h.1.lt hr
  rw [h1] at h3
  simp at h3
  exact h2 h3.2
/-- The things up to k are laid. -/
structure LaidD (D : Deep A) (lo : Nat) (W : World) (ts : List A) (k : Nat) : Prop where
  len : ts.length = k
  row : ∀ j, j < k → D.Fr lo W.heap.size W (el ts j)
  off : Parted D ts
theorem LaidD.zero (lo : Nat) (W : World) : LaidD D lo W [] 0 := ⟨rfl, fun j hj => by omega, fun i j _ hj => by simp at hj⟩
theorem LaidD.keep (hD : D.Ok) {k : Nat} (h : LaidD D lo W ts k) (hs : W.heap.size ≤ W'.heap.size) (hb : ∀ i, lo ≤ i → i < W.heap.size → W'.heap[i]? = W.heap[i]?) : LaidD D lo W' ts k :=
  ⟨h.len, fun j hj => hD.wide (hD.keep (h.row j hj) fun b ho => by obtain ⟨h1, h2, _⟩ := hD.lt (h.row j hj) ho; exact hb b h1 h2) (Nat.le_refl _) hs, h.off⟩
theorem LaidD.later (hD : D.Ok) {k : Nat} (h : LaidD D lo W ts k) (hb : Below W.heap.size W W') : LaidD D lo W' ts k := h.keep hD hb.size fun i _ hi => hb.block i hi
theorem LaidD.set (hD : D.Ok) {k : Nat} (h : LaidD D lo W ts k) {a : Addr} (ha : a.block < lo) (u : Value) : LaidD D lo (W.setCell a u) ts k := h.keep hD (by simp [World.setCell]) fun i hi _ => Below.heap_setCell W a u i (by omega)
theorem el_snoc_left {α : Type} [Inhabited α] {l : List α} {x : α} {j k : Nat} (hl : l.length = k) (hj : j < k) : el (l ++ [x]) j = el l j := el_app_left (by omega)
theorem el_snoc_right {α : Type} [Inhabited α] {l : List α} {x : α} {k : Nat} (hl : l.length = k) : el (l ++ [x]) k = x := by
  have := el_app_right l [x] 0
  rw [hl, Nat.add_zero, el_zero] at this
  exact this
theorem LaidD.add (hD : D.Ok) {k : Nat} {a : A} (h : LaidD D lo W ts k) (hb : Below W.heap.size W W') (hlo : lo ≤ W.heap.size) (hF : D.Fr W.heap.size W'.heap.size W' a) : LaidD D lo W' (ts ++ [a]) (k + 1) := by
  have h2 := h.later hD hb
  refine ⟨by simp [h.len], fun j hj => ?_, fun i j hij hj b h1 => ?_⟩
  · rcases Nat.lt_succ_iff_lt_or_eq.1 hj with hj | rfl
    · rw [el_snoc_left h.len hj]; exact h2.row j hj
    · rw [el_snoc_right h.len]; exact hD.wide hF hlo (Nat.le_refl _)
  · have hj' : j < k + 1 := by simpa [h.len] using hj
    rcases Nat.lt_succ_iff_lt_or_eq.1 hj' with hj | rfl
    · rw [el_snoc_left h.len (by omega)] at h1
      rw [el_snoc_left h.len hj]
      exact h.off i j hij (by rw [h.len]; exact hj) b h1
    · rw [el_snoc_left h.len hij] at h1
      rw [el_snoc_right h.len]
      intro h3
      have h4 := (hD.lt (h.row i hij) h1).2.1
      have h5 := (hD.lt hF h3).1
      omega
theorem LaidD.fr (hD : D.Ok) {lo' k : Nat} (h : LaidD D lo W ts k) (hlo : lo' ≤ lo) (hF : D.K.Fresh lo' W.heap.size W ao c ts) : DFr D lo' W.heap.size W ao c ts :=
  ⟨hF, fun j hj => hD.wide (h.row j (by rw [← h.len]; exact hj)) hlo (Nat.le_refl _), h.off⟩
end
end
end Go.Proofs.Ytdjdbcfcccbhpaa
