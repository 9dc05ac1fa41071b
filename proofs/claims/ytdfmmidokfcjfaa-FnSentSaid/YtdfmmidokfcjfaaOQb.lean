
/- Receiving from what lies there: the program. No conditions but those written. -/
import Derived.Test.YtdfmmidokfcjfaaOQa
import Derived.Test.YtdfmmidokfcjfaaOMd
namespace Go.Proofs.Ytdfmmidokfcjfaa.Old
open Go.RowKit

abbrev sets12 (W : World) (p : Nat) (h0 h1 h2 h3 h4 h5 h6 h7 h8 h9 f m : Int) : World := (((((((((((W.setCell ⟨p, 0, none⟩ (.int .i64 h0)).setCell ⟨p, 1, none⟩ (.int .i64 h1)).setCell ⟨p, 2, none⟩ (.int .i64 h2)).setCell ⟨p, 3, none⟩ (.int .i64 h3)).setCell ⟨p, 4, none⟩ (.int .i64 h4)).setCell ⟨p, 5, none⟩ (.int .i64 h5)).setCell ⟨p, 6, none⟩ (.int .i64 h6)).setCell ⟨p, 7, none⟩ (.int .i64 h7)).setCell ⟨p, 8, none⟩ (.int .i64 h8)).setCell ⟨p, 9, none⟩ (.int .i64 h9)).setCell ⟨p, 10, none⟩ (.int .i64 f)).setCell ⟨p, 11, none⟩ (.int .i64 m)
theorem only12 (W : World) (p : Nat) (h0 h1 h2 h3 h4 h5 h6 h7 h8 h9 f m : Int) : OnlyAt (some ⟨p, 0, none⟩) W (sets12 W p h0 h1 h2 h3 h4 h5 h6 h7 h8 h9 f m) :=
  (((((((((((OnlyAt.set p 0 _ _).trans (OnlyAt.set p 1 _ _)).trans (OnlyAt.set p 2 _ _)).trans (OnlyAt.set p 3 _ _)).trans (OnlyAt.set p 4 _ _)).trans (OnlyAt.set p 5 _ _)).trans (OnlyAt.set p 6 _ _)).trans (OnlyAt.set p 7 _ _)).trans (OnlyAt.set p 8 _ _)).trans (OnlyAt.set p 9 _ _)).trans (OnlyAt.set p 10 _ _)).trans (OnlyAt.set p 11 _ _)
theorem RingB.sets {W : World} {p : Nat} {f' m' : Int} (h : RingB W p [0, 0, 0, 0, 0, 0, 0, 0, 0, 0] f' m') (h0 h1 h2 h3 h4 h5 h6 h7 h8 h9 f m : Int) : RingB (sets12 W p h0 h1 h2 h3 h4 h5 h6 h7 h8 h9 f m) p [h0, h1, h2, h3, h4, h5, h6, h7, h8, h9] f m :=
  ((((((((((((h.put (i := 0) (by omega) h0).put (i := 1) (by omega) h1).put (i := 2) (by omega) h2).put (i := 3) (by omega) h3).put (i := 4) (by omega) h4).put (i := 5) (by omega) h5).put (i := 6) (by omega) h6).put (i := 7) (by omega) h7).put (i := 8) (by omega) h8).put (i := 9) (by omega) h9).setF f).setM m)
theorem RingB.only {W W' : World} {p q : Nat} {g : List Int} {f m : Int} (h : RingB W p g f m) (hb : OnlyAt (some ⟨q, 0, none⟩) W W') (hp : p ≠ q) : RingB W' p g f m := ⟨h.1, by rw [hb.block p fun g e => by cases e; exact hp]; exact h.2⟩
theorem FreshCh.only {lo hi p : Nat} {W W' : World} {bo : Option Addr} {bc : Nat} {b : List Int} {so : Option Addr} {sc : Nat} {s : List T3} {ro : Option Addr} {rc : Nat} {r : List T3} (h : FreshCh lo hi W bo bc b so sc s ro rc r) (hb : OnlyAt (some ⟨p, 0, none⟩) W W') (hp : p < lo ∨ hi ≤ p) : FreshCh lo hi W' bo bc b so sc s ro rc r :=
  ⟨h.1.keep fun k h1 h2 _ => hb.block k fun g e => by cases e; omega, h.2.1.keep fun k h1 h2 _ => hb.block k fun g e => by cases e; omega, h.2.2.1.keep fun k h1 h2 _ => hb.block k fun g e => by cases e; omega, h.2.2.2⟩
theorem ringOf_ten (ao : Option Addr) (cap : Nat) (b : List Int) (g0 g1 g2 g3 g4 g5 g6 g7 g8 g9 : Int) (hg : padR b = [g0, g1, g2, g3, g4, g5, g6, g7, g8, g9]) (w : World) (hl : b.length ≤ 10) (hz : IntsIn w.heap.size w ao b) :
    Calls Try.prog 16 #[.slice ao b.length cap] w fun e w' => e = .returned (.agg #[.int .i64 g0, .int .i64 g1, .int .i64 g2, .int .i64 g3, .int .i64 g4, .int .i64 g5, .int .i64 g6, .int .i64 g7, .int .i64 g8, .int .i64 g9, .int .i64 0, .int .i64 (b.length : Int)]) ∧ Below w.heap.size w w' := by
  refine (ringOf_any ao cap b w hl hz).mono ?_
  rintro e w' ⟨rfl, hb⟩
  refine ⟨?_, hb⟩
  rw [hg]; rfl

theorem box_ring_ne {W : World} {p6 p7 : Nat} (h : BoxF5 W p6 (.int .i64 0) (.bool false) (.slice none 0 0) (.slice none 0 0) (.slice none 0 0)) (k : RingB W p7 [0, 0, 0, 0, 0, 0, 0, 0, 0, 0] 0 0) : p6 ≠ p7 := by
  rintro rfl
  have e := h.1.2.2.1
  rw [k.cell (i := 1) (by omega)] at e
  simp at e
theorem ring_sets6 {W : World} {p6 p7 : Nat} (h : BoxF5 W p6 (.int .i64 0) (.bool false) (.slice none 0 0) (.slice none 0 0) (.slice none 0 0)) (k : RingB W p7 [0, 0, 0, 0, 0, 0, 0, 0, 0, 0] 0 0) (u0 u1 u2 u3 u4 : Value) : RingB (sets5 W p6 u0 u1 u2 u3 u4) p7 [0, 0, 0, 0, 0, 0, 0, 0, 0, 0] 0 0 := RingB.only k (only5 W p6 u0 u1 u2 u3 u4) (box_ring_ne h k).symm
theorem lay0d {V x : World} (h : Below V.drew.heap.size V.drew x) : Below V.heap.size V x := (Below.refl V.heap.size V).drew.trans h
theorem lay6 {V x : World} (h : Below (V.alloc (.cells #[.int .i64 0, .bool false, .slice none 0 0, .slice none 0 0, .slice none 0 0] 26)).heap.size (V.alloc (.cells #[.int .i64 0, .bool false, .slice none 0 0, .slice none 0 0, .slice none 0 0] 26)) x) : Below V.heap.size V x ∧ BoxF5 x V.heap.size (.int .i64 0) (.bool false) (.slice none 0 0) (.slice none 0 0) (.slice none 0 0) := ⟨(below1 V _).trans (h.mono (by simp)), (BoxF5.new V (.int .i64 0) (.bool false) (.slice none 0 0) (.slice none 0 0) (.slice none 0 0) 26).later h⟩
theorem lay7 {V x : World} (h : Below (V.alloc (.cells #[.int .i64 0, .int .i64 0, .int .i64 0, .int .i64 0, .int .i64 0, .int .i64 0, .int .i64 0, .int .i64 0, .int .i64 0, .int .i64 0, .int .i64 0, .int .i64 0] 52)).heap.size (V.alloc (.cells #[.int .i64 0, .int .i64 0, .int .i64 0, .int .i64 0, .int .i64 0, .int .i64 0, .int .i64 0, .int .i64 0, .int .i64 0, .int .i64 0, .int .i64 0, .int .i64 0] 52)) x) : Below V.heap.size V x ∧ RingB x V.heap.size [0, 0, 0, 0, 0, 0, 0, 0, 0, 0] 0 0 := ⟨(below1 V _).trans (h.mono (by simp)), (ring_new V 0 0 0 0 0 0 0 0 0 0 0 0).later h⟩
theorem lay67 {V x : World} (h : Below ((V.alloc (.cells #[.int .i64 0, .bool false, .slice none 0 0, .slice none 0 0, .slice none 0 0] 26)).alloc (.cells #[.int .i64 0, .int .i64 0, .int .i64 0, .int .i64 0, .int .i64 0, .int .i64 0, .int .i64 0, .int .i64 0, .int .i64 0, .int .i64 0, .int .i64 0, .int .i64 0] 52)).heap.size ((V.alloc (.cells #[.int .i64 0, .bool false, .slice none 0 0, .slice none 0 0, .slice none 0 0] 26)).alloc (.cells #[.int .i64 0, .int .i64 0, .int .i64 0, .int .i64 0, .int .i64 0, .int .i64 0, .int .i64 0, .int .i64 0, .int .i64 0, .int .i64 0, .int .i64 0, .int .i64 0] 52)) x) : Below V.heap.size V x ∧ BoxF5 x V.heap.size (.int .i64 0) (.bool false) (.slice none 0 0) (.slice none 0 0) (.slice none 0 0) ∧ RingB x (V.heap.size + 1) [0, 0, 0, 0, 0, 0, 0, 0, 0, 0] 0 0 := by
  refine ⟨(below2 V _ _).trans (h.mono (by simp; omega)), ((BoxF5.new V (.int .i64 0) (.bool false) (.slice none 0 0) (.slice none 0 0) (.slice none 0 0) 26).later (below1 _ (.cells #[.int .i64 0, .int .i64 0, .int .i64 0, .int .i64 0, .int .i64 0, .int .i64 0, .int .i64 0, .int .i64 0, .int .i64 0, .int .i64 0, .int .i64 0, .int .i64 0] 52))).later h, ?_⟩
  have k := (ring_new (V.alloc (.cells #[.int .i64 0, .bool false, .slice none 0 0, .slice none 0 0, .slice none 0 0] 26)) 0 0 0 0 0 0 0 0 0 0 0 0).later h
  simpa using k
theorem lay76 {V x : World} (h : Below ((V.alloc (.cells #[.int .i64 0, .int .i64 0, .int .i64 0, .int .i64 0, .int .i64 0, .int .i64 0, .int .i64 0, .int .i64 0, .int .i64 0, .int .i64 0, .int .i64 0, .int .i64 0] 52)).alloc (.cells #[.int .i64 0, .bool false, .slice none 0 0, .slice none 0 0, .slice none 0 0] 26)).heap.size ((V.alloc (.cells #[.int .i64 0, .int .i64 0, .int .i64 0, .int .i64 0, .int .i64 0, .int .i64 0, .int .i64 0, .int .i64 0, .int .i64 0, .int .i64 0, .int .i64 0, .int .i64 0] 52)).alloc (.cells #[.int .i64 0, .bool false, .slice none 0 0, .slice none 0 0, .slice none 0 0] 26)) x) : Below V.heap.size V x ∧ RingB x V.heap.size [0, 0, 0, 0, 0, 0, 0, 0, 0, 0] 0 0 ∧ BoxF5 x (V.heap.size + 1) (.int .i64 0) (.bool false) (.slice none 0 0) (.slice none 0 0) (.slice none 0 0) := by
  refine ⟨(below2 V _ _).trans (h.mono (by simp; omega)), ((ring_new V 0 0 0 0 0 0 0 0 0 0 0 0).later (below1 _ (.cells #[.int .i64 0, .bool false, .slice none 0 0, .slice none 0 0, .slice none 0 0] 26))).later h, ?_⟩
  have k := (BoxF5.new (V.alloc (.cells #[.int .i64 0, .int .i64 0, .int .i64 0, .int .i64 0, .int .i64 0, .int .i64 0, .int .i64 0, .int .i64 0, .int .i64 0, .int .i64 0, .int .i64 0, .int .i64 0] 52)) (.int .i64 0) (.bool false) (.slice none 0 0) (.slice none 0 0) (.slice none 0 0) 26).later h
  simpa using k
theorem lay6d {V x : World} (h : Below (V.alloc (.cells #[.int .i64 0, .bool false, .slice none 0 0, .slice none 0 0, .slice none 0 0] 26)).drew.heap.size (V.alloc (.cells #[.int .i64 0, .bool false, .slice none 0 0, .slice none 0 0, .slice none 0 0] 26)).drew x) : Below V.heap.size V x ∧ BoxF5 x V.heap.size (.int .i64 0) (.bool false) (.slice none 0 0) (.slice none 0 0) (.slice none 0 0) := lay6 (lay0d h)
theorem lay7d {V x : World} (h : Below (V.alloc (.cells #[.int .i64 0, .int .i64 0, .int .i64 0, .int .i64 0, .int .i64 0, .int .i64 0, .int .i64 0, .int .i64 0, .int .i64 0, .int .i64 0, .int .i64 0, .int .i64 0] 52)).drew.heap.size (V.alloc (.cells #[.int .i64 0, .int .i64 0, .int .i64 0, .int .i64 0, .int .i64 0, .int .i64 0, .int .i64 0, .int .i64 0, .int .i64 0, .int .i64 0, .int .i64 0, .int .i64 0] 52)).drew x) : Below V.heap.size V x ∧ RingB x V.heap.size [0, 0, 0, 0, 0, 0, 0, 0, 0, 0] 0 0 := lay7 (lay0d h)
theorem lay67d {V x : World} (h : Below ((V.alloc (.cells #[.int .i64 0, .bool false, .slice none 0 0, .slice none 0 0, .slice none 0 0] 26)).alloc (.cells #[.int .i64 0, .int .i64 0, .int .i64 0, .int .i64 0, .int .i64 0, .int .i64 0, .int .i64 0, .int .i64 0, .int .i64 0, .int .i64 0, .int .i64 0, .int .i64 0] 52)).drew.heap.size ((V.alloc (.cells #[.int .i64 0, .bool false, .slice none 0 0, .slice none 0 0, .slice none 0 0] 26)).alloc (.cells #[.int .i64 0, .int .i64 0, .int .i64 0, .int .i64 0, .int .i64 0, .int .i64 0, .int .i64 0, .int .i64 0, .int .i64 0, .int .i64 0, .int .i64 0, .int .i64 0] 52)).drew x) : Below V.heap.size V x ∧ BoxF5 x V.heap.size (.int .i64 0) (.bool false) (.slice none 0 0) (.slice none 0 0) (.slice none 0 0) ∧ RingB x (V.heap.size + 1) [0, 0, 0, 0, 0, 0, 0, 0, 0, 0] 0 0 := lay67 (lay0d h)
theorem lay76d {V x : World} (h : Below ((V.alloc (.cells #[.int .i64 0, .int .i64 0, .int .i64 0, .int .i64 0, .int .i64 0, .int .i64 0, .int .i64 0, .int .i64 0, .int .i64 0, .int .i64 0, .int .i64 0, .int .i64 0] 52)).alloc (.cells #[.int .i64 0, .bool false, .slice none 0 0, .slice none 0 0, .slice none 0 0] 26)).drew.heap.size ((V.alloc (.cells #[.int .i64 0, .int .i64 0, .int .i64 0, .int .i64 0, .int .i64 0, .int .i64 0, .int .i64 0, .int .i64 0, .int .i64 0, .int .i64 0, .int .i64 0, .int .i64 0] 52)).alloc (.cells #[.int .i64 0, .bool false, .slice none 0 0, .slice none 0 0, .slice none 0 0] 26)).drew x) : Below V.heap.size V x ∧ RingB x V.heap.size [0, 0, 0, 0, 0, 0, 0, 0, 0, 0] 0 0 ∧ BoxF5 x (V.heap.size + 1) (.int .i64 0) (.bool false) (.slice none 0 0) (.slice none 0 0) (.slice none 0 0) := lay76 (lay0d h)


/-- What the first statement leaves: the copy in the box p6, the ring in the box p7, the rows elsewhere. -/
def RelB (W0 wx : World) (p6 p7 lo hi : Nat) (kap : Int) (cl : Bool) (bo5 : Option Addr) (bc5 : Nat) (b : List Int) (so5 : Option Addr) (sc5 : Nat) (s : List T3) (ro5 : Option Addr) (rc5 : Nat) (r : List T3) (g0 g1 g2 g3 g4 g5 g6 g7 g8 g9 : Int) : Prop :=
  Below W0.heap.size W0 wx ∧ BoxF5 wx p6 (.int .i64 kap) (.bool cl) (.slice bo5 b.length bc5) (.slice so5 s.length sc5) (.slice ro5 r.length rc5) ∧ RingB wx p7 [g0, g1, g2, g3, g4, g5, g6, g7, g8, g9] 0 (b.length : Int) ∧ FreshCh lo hi wx bo5 bc5 b so5 sc5 s ro5 rc5 r ∧ p6 ≠ p7 ∧ W0.heap.size ≤ p6 ∧ W0.heap.size ≤ p7 ∧ W0.heap.size ≤ lo ∧ hi ≤ wx.heap.size ∧ (p6 < lo ∨ hi ≤ p6) ∧ (p7 < lo ∨ hi ≤ p7)
section
variable {W0 wb : World} {p6 p7 lo hi : Nat} {kap : Int} {cl : Bool} {bo5 : Option Addr} {bc5 : Nat} {b : List Int} {so5 : Option Addr} {sc5 : Nat} {s : List T3} {ro5 : Option Addr} {rc5 : Nat} {r : List T3}
theorem relA (c : Below W0.heap.size W0 wb) (F : FreshCh lo hi wb bo5 bc5 b so5 sc5 s ro5 rc5 r) (l1 : W0.heap.size ≤ lo) (l2 : hi ≤ wb.heap.size) (g0 g1 g2 g3 g4 g5 g6 g7 g8 g9 : Int) : RelB W0 ((wb.alloc (.cells #[.int .i64 kap, .bool cl, .slice bo5 b.length bc5, .slice so5 s.length sc5, .slice ro5 r.length rc5] 26)).alloc (.cells #[.int .i64 g0, .int .i64 g1, .int .i64 g2, .int .i64 g3, .int .i64 g4, .int .i64 g5, .int .i64 g6, .int .i64 g7, .int .i64 g8, .int .i64 g9, .int .i64 0, .int .i64 (b.length : Int)] 52)) wb.heap.size (wb.heap.size + 1) lo hi kap cl bo5 bc5 b so5 sc5 s ro5 rc5 r g0 g1 g2 g3 g4 g5 g6 g7 g8 g9 := by
  have k := ring_new (wb.alloc (.cells #[.int .i64 kap, .bool cl, .slice bo5 b.length bc5, .slice so5 s.length sc5, .slice ro5 r.length rc5] 26)) g0 g1 g2 g3 g4 g5 g6 g7 g8 g9 0 (b.length : Int)
  rw [World.size_alloc] at k
  have n := c.size
  exact ⟨c.trans ((below2 wb _ _).mono n), (BoxF5.new wb _ _ _ _ _ _).later (below1 _ _), k, F.later (below2 _ _ _), by omega, n, by omega, l1, by simp; omega, .inr l2, .inr (by omega)⟩
theorem relB (c : Below W0.heap.size W0 wb) (F : FreshCh lo hi wb bo5 bc5 b so5 sc5 s ro5 rc5 r) (l1 : W0.heap.size ≤ lo) (l2 : hi ≤ wb.heap.size) (g0 g1 g2 g3 g4 g5 g6 g7 g8 g9 : Int) : RelB W0 ((wb.alloc (.cells #[.int .i64 g0, .int .i64 g1, .int .i64 g2, .int .i64 g3, .int .i64 g4, .int .i64 g5, .int .i64 g6, .int .i64 g7, .int .i64 g8, .int .i64 g9, .int .i64 0, .int .i64 (b.length : Int)] 52)).alloc (.cells #[.int .i64 kap, .bool cl, .slice bo5 b.length bc5, .slice so5 s.length sc5, .slice ro5 r.length rc5] 26)) (wb.heap.size + 1) wb.heap.size lo hi kap cl bo5 bc5 b so5 sc5 s ro5 rc5 r g0 g1 g2 g3 g4 g5 g6 g7 g8 g9 := by
  have k := BoxF5.new (wb.alloc (.cells #[.int .i64 g0, .int .i64 g1, .int .i64 g2, .int .i64 g3, .int .i64 g4, .int .i64 g5, .int .i64 g6, .int .i64 g7, .int .i64 g8, .int .i64 g9, .int .i64 0, .int .i64 (b.length : Int)] 52)) (.int .i64 kap) (.bool cl) (.slice bo5 b.length bc5) (.slice so5 s.length sc5) (.slice ro5 r.length rc5) 26
  rw [World.size_alloc] at k
  have n := c.size
  exact ⟨c.trans ((below2 wb _ _).mono n), k, (ring_new wb g0 g1 g2 g3 g4 g5 g6 g7 g8 g9 0 (b.length : Int)).later (below1 _ _), F.later (below2 _ _ _), by omega, by omega, n, l1, by simp; omega, .inr (by omega), .inr l2⟩
theorem relC (c : Below W0.heap.size W0 wb) (F : FreshCh lo hi wb bo5 bc5 b so5 sc5 s ro5 rc5 r) (l1 : W0.heap.size ≤ lo) (l2 : hi ≤ wb.heap.size) (z6 : BoxF5 wb p6 (.int .i64 0) (.bool false) (.slice none 0 0) (.slice none 0 0) (.slice none 0 0)) (k6 : W0.heap.size ≤ p6) (h6 : p6 < lo ∨ hi ≤ p6) (g0 g1 g2 g3 g4 g5 g6 g7 g8 g9 : Int) : RelB W0 ((sets5 wb p6 (.int .i64 kap) (.bool cl) (.slice bo5 b.length bc5) (.slice so5 s.length sc5) (.slice ro5 r.length rc5)).alloc (.cells #[.int .i64 g0, .int .i64 g1, .int .i64 g2, .int .i64 g3, .int .i64 g4, .int .i64 g5, .int .i64 g6, .int .i64 g7, .int .i64 g8, .int .i64 g9, .int .i64 0, .int .i64 (b.length : Int)] 52)) p6 wb.heap.size lo hi kap cl bo5 bc5 b so5 sc5 s ro5 rc5 r g0 g1 g2 g3 g4 g5 g6 g7 g8 g9 := by
  have k := ring_new (sets5 wb p6 (.int .i64 kap) (.bool cl) (.slice bo5 b.length bc5) (.slice so5 s.length sc5) (.slice ro5 r.length rc5)) g0 g1 g2 g3 g4 g5 g6 g7 g8 g9 0 (b.length : Int)
  rw [sets5_size] at k
  have n := c.size
  have l := z6.1.1
  exact ⟨(Below.sets c k6 (.int .i64 kap) (.bool cl) (.slice bo5 b.length bc5) (.slice so5 s.length sc5) (.slice ro5 r.length rc5)).alloc (by rw [sets5_size]; exact n) _, (z6.setsF (.int .i64 kap) (.bool cl) (.slice bo5 b.length bc5) (.slice so5 s.length sc5) (.slice ro5 r.length rc5)).later (below1 _ _), k, (F.sets h6 (.int .i64 kap) (.bool cl) (.slice bo5 b.length bc5) (.slice so5 s.length sc5) (.slice ro5 r.length rc5)).later (below1 _ _), by omega, k6, n, l1, by rw [World.size_alloc, sets5_size]; omega, h6, .inr l2⟩
theorem relD (c : Below W0.heap.size W0 wb) (F : FreshCh lo hi wb bo5 bc5 b so5 sc5 s ro5 rc5 r) (l1 : W0.heap.size ≤ lo) (l2 : hi ≤ wb.heap.size) (z6 : BoxF5 wb p6 (.int .i64 0) (.bool false) (.slice none 0 0) (.slice none 0 0) (.slice none 0 0)) (k6 : W0.heap.size ≤ p6) (h6 : p6 < lo ∨ hi ≤ p6) (z7 : RingB wb p7 [0, 0, 0, 0, 0, 0, 0, 0, 0, 0] 0 0) (k7 : W0.heap.size ≤ p7) (h7 : p7 < lo ∨ hi ≤ p7) (g0 g1 g2 g3 g4 g5 g6 g7 g8 g9 : Int) : RelB W0 (sets12 (sets5 wb p6 (.int .i64 kap) (.bool cl) (.slice bo5 b.length bc5) (.slice so5 s.length sc5) (.slice ro5 r.length rc5)) p7 g0 g1 g2 g3 g4 g5 g6 g7 g8 g9 0 (b.length : Int)) p6 p7 lo hi kap cl bo5 bc5 b so5 sc5 s ro5 rc5 r g0 g1 g2 g3 g4 g5 g6 g7 g8 g9 := by
  have e := box_ring_ne z6 z7
  have o := only12 (sets5 wb p6 (.int .i64 kap) (.bool cl) (.slice bo5 b.length bc5) (.slice so5 s.length sc5) (.slice ro5 r.length rc5)) p7 g0 g1 g2 g3 g4 g5 g6 g7 g8 g9 0 (b.length : Int)
  exact ⟨(Below.sets c k6 (.int .i64 kap) (.bool cl) (.slice bo5 b.length bc5) (.slice so5 s.length sc5) (.slice ro5 r.length rc5)).trans (o.below k7), (z6.setsF (.int .i64 kap) (.bool cl) (.slice bo5 b.length bc5) (.slice so5 s.length sc5) (.slice ro5 r.length rc5)).only o e, (ring_sets6 z6 z7 (.int .i64 kap) (.bool cl) (.slice bo5 b.length bc5) (.slice so5 s.length sc5) (.slice ro5 r.length rc5)).sets g0 g1 g2 g3 g4 g5 g6 g7 g8 g9 0 (b.length : Int), FreshCh.only (F.sets h6 (.int .i64 kap) (.bool cl) (.slice bo5 b.length bc5) (.slice so5 s.length sc5) (.slice ro5 r.length rc5)) o h7, e, k6, k7, l1, by rw [o.size, sets5_size]; exact l2, h6, h7⟩
theorem relE (c : Below W0.heap.size W0 wb) (F : FreshCh lo hi wb bo5 bc5 b so5 sc5 s ro5 rc5 r) (l1 : W0.heap.size ≤ lo) (l2 : hi ≤ wb.heap.size) (z7 : RingB wb p7 [0, 0, 0, 0, 0, 0, 0, 0, 0, 0] 0 0) (k7 : W0.heap.size ≤ p7) (h7 : p7 < lo ∨ hi ≤ p7) (g0 g1 g2 g3 g4 g5 g6 g7 g8 g9 : Int) : RelB W0 (sets12 (wb.alloc (.cells #[.int .i64 kap, .bool cl, .slice bo5 b.length bc5, .slice so5 s.length sc5, .slice ro5 r.length rc5] 26)) p7 g0 g1 g2 g3 g4 g5 g6 g7 g8 g9 0 (b.length : Int)) wb.heap.size p7 lo hi kap cl bo5 bc5 b so5 sc5 s ro5 rc5 r g0 g1 g2 g3 g4 g5 g6 g7 g8 g9 := by
  have o := only12 (wb.alloc (.cells #[.int .i64 kap, .bool cl, .slice bo5 b.length bc5, .slice so5 s.length sc5, .slice ro5 r.length rc5] 26)) p7 g0 g1 g2 g3 g4 g5 g6 g7 g8 g9 0 (b.length : Int)
  have l := z7.lt
  have n := c.size
  exact ⟨(c.alloc n _).trans (o.below k7), (BoxF5.new wb (.int .i64 kap) (.bool cl) (.slice bo5 b.length bc5) (.slice so5 s.length sc5) (.slice ro5 r.length rc5) 26).only o (by omega), (z7.later (below1 wb (.cells #[.int .i64 kap, .bool cl, .slice bo5 b.length bc5, .slice so5 s.length sc5, .slice ro5 r.length rc5] 26))).sets g0 g1 g2 g3 g4 g5 g6 g7 g8 g9 0 (b.length : Int), FreshCh.only (F.later (below1 _ _)) o h7, by omega, n, k7, l1, by rw [o.size, World.size_alloc]; omega, .inr l2, h7⟩
end

theorem take_ten (p : Nat) (g0 g1 g2 g3 g4 g5 g6 g7 g8 g9 : Int) (m : Nat) (w : World) (hR : RingB w p [g0, g1, g2, g3, g4, g5, g6, g7, g8, g9] 0 m) (hm1 : 1 ≤ m) (hm : m ≤ 10) :
    Calls Try.prog 44 #[.pointer (some ⟨p, 0, none⟩)] w fun e w' => e = .returned (.int .i64 g0) ∧ RingB w' p [g0, g1, g2, g3, g4, g5, g6, g7, g8, g9] 1 ((m : Int) - 1) ∧ OnlyAt (some ⟨p, 0, none⟩) w w' := take_any p [g0, g1, g2, g3, g4, g5, g6, g7, g8, g9] m w hR hm1 hm
theorem pad_drop (b : List Int) (h0 : 0 < b.length) : ((padR b).drop 1).take (b.length - 1) = b.drop 1 := by
  rw [padR, List.drop_append_of_le_length (by omega), List.take_append_of_le_length (by simp), List.take_of_length_le (by simp)]
theorem pad_first (b : List Int) (h0 : 0 < b.length) {g0 g1 g2 g3 g4 g5 g6 g7 g8 g9 : Int} (hg : padR b = [g0, g1, g2, g3, g4, g5, g6, g7, g8, g9]) : z0 b = g0 := by
  have h : (padR b)[0]? = some g0 := by rw [hg]; rfl
  rw [padR, List.getElem?_append_left h0] at h
  unfold z0; rw [h]; rfl
theorem wpList_pushKG {ops : Array Oper} {rest : List Oper} {o : Oper} {a : Act} {Q : Exit → Act → World → Prop} (W : World) (hg : o.guard = none) (s x : Operand) (hop : o.op = Op.call { callee := Callee.builtin Builtin.append, args := #[s, x], argTypes := #[31, 31] })
    (lo : Nat) (v : Value) (xs : List T4) (hs : a.eval s = v) (hown : OwnK lo W v xs) (hlo : lo ≤ W.heap.size) (hl : xs.length ≤ 1048576)
    (b : Nat) (z : T4) (c : Nat) (hx : a.eval x = .slice (some ⟨b, 0, none⟩) 1 c) (hc0 : W.cell? ⟨b, 0, none⟩ = some (.int .i64 z.1)) (hc1 : W.cell? ⟨b, 1, none⟩ = some (.int .i64 z.2.1)) (hc2 : W.cell? ⟨b, 2, none⟩ = some (.int .i64 z.2.2.1)) (hc3 : W.cell? ⟨b, 3, none⟩ = some (.bool z.2.2.2))
    (hK : ∀ v' w', OwnK lo w' v' (xs ++ [z]) → Below lo W w' → W.grownBy w' v.ownBlock → wpList Try.prog ops Q rest (a.put o.dst v') w') :
    wpList Try.prog ops Q (o :: rest) a W := by
  obtain ⟨i0, hin, hz0, hz1, hz2⟩ := info_parts Try.info35
  have hcz : ∀ j u, (kcells [z])[j]? = some u → W.cell? ((⟨b, 0, none⟩ : Addr).add j) = some u := by
    intro j u h
    match j, h with
    | 0, h => simp [kcells] at h; subst h; simpa [Addr.add] using hc0
    | 1, h => simp [kcells] at h; subst h; simpa [Addr.add] using hc1
    | 2, h => simp [kcells] at h; subst h; simpa [Addr.add] using hc2
    | 3, h => simp [kcells] at h; subst h; simpa [Addr.add] using hc3
    | j + 4, h => simp [kcells] at h
  refine wpList_append_own W hg s x 31 hop lo 35 i0 (.agg #[.int .i64 0, .int .i64 0, .int .i64 0, .bool false]) 4 32 Try.underlying31 hin hz0 hz1 hz2 rfl (by decide) v xs.length (kcells xs) hs hown ⟨b, 0, none⟩ 1 c (kcells [z]) hx rfl hcz (kcells_one [z]) (by unfold maxLen; omega) (by omega) hlo ?_
  intro v' w' ho hgr _
  refine hK v' w' ?_ (hown.belowG hgr hlo) hgr
  unfold OwnK
  rw [kcells_app, List.length_append]; exact ho
theorem pad_set (b : List Int) (x : Int) (h0 : 0 < b.length) (h9 : b.length ≤ 9) : (((padR b).set (b.length % 10) x).drop 1).take b.length = b.drop 1 ++ [x] := by
  obtain ⟨k, hk⟩ : ∃ k, 10 - b.length = k + 1 := ⟨9 - b.length, by omega⟩
  have h1 : (padR b).set (b.length % 10) x = b ++ x :: List.replicate k 0 := by
    rw [padR, hk, List.replicate_succ, Nat.mod_eq_of_lt (by omega), List.set_append_right _ _ (Nat.le_refl _)]
    simp
  rw [h1, List.drop_append_of_le_length (by omega)]
  obtain ⟨D, hD⟩ : ∃ D, D = b.drop 1 := ⟨_, rfl⟩
  have hl : b.length = D.length + 1 := by rw [hD]; simp; omega
  rw [← hD, hl, List.take_append]
  simp [List.take_of_length_le]
theorem pad_set10 (b : List Int) (x : Int) (h : b.length = 10) : ((padR b).set (b.length % 10) x).drop 1 ++ ((padR b).set (b.length % 10) x).take 1 = b.drop 1 ++ [x] := by
  match b, h with
  | y :: t, h => simp at h; simp [padR, h]
theorem listP_any (p : Nat) (b : List Int) (x : Int) (w : World) (h0 : 0 < b.length) (h10 : b.length ≤ 10) (hR : RingB w p ((padR b).set (b.length % 10) x) 1 (b.length : Int)) :
    Calls Try.prog 18 #[.pointer (some ⟨p, 0, none⟩)] w fun e w' => (∃ go, e = .returned (.slice go b.length b.length) ∧ FreshI w.heap.size w'.heap.size w' go b.length (b.drop 1 ++ [x])) ∧ Below w.heap.size w w' := by
  by_cases h : b.length ≤ 9
  · have k := list1_any p _ b.length w hR h
    rw [pad_set b x h0 h] at k; exact k
  · have e : b.length = 10 := by omega
    have k := listX_any p ((padR b).set (b.length % 10) x) w (by have hR' := hR; rw [show ((b.length : Nat) : Int) = 10 from by omega] at hR'; exact hR')
    rw [pad_set10 b x e] at k
    rw [e]; exact k
set_option maxRecDepth 10000 in
set_option maxHeartbeats 16000000 in
theorem recvBuffer_any (kap : Int) (cl : Bool) (bo : Option Addr) (bc : Nat) (b : List Int) (so : Option Addr) (sc : Nat) (s : List T3) (ro : Option Addr) (rc : Nat) (r : List T3) (t1 t2 tv : Int) (w : World) (hl : b.length ≤ 1048576) (hls : s.length ≤ 1048576) (hlr : r.length ≤ 1048576) (hz : ChanIn w.heap.size w bo b so s ro r) (hb0 : 0 < b.length) (hb10 : b.length ≤ 10) :
    Calls Try.prog 25 #[.agg #[.int .i64 kap, .bool cl, .slice bo b.length bc, .slice so s.length sc, .slice ro r.length rc], .agg #[.int .i64 t1, .int .i64 t2, .int .i64 tv]] w fun e w' => AnsY w kap cl (recvI kap cl b s r (t1, t2, tv)).2.2.1 (recvI kap cl b s r (t1, t2, tv)).2.2.2.1 r (recvI kap cl b s r (t1, t2, tv)).2.2.2.2.2.1 e w' := by
  generalize hR : recvI kap cl b s r (t1, t2, tv) = R
  obtain ⟨Rk, Rcl, Rb, Rs, Rr, Rw, Rc⟩ := R
  have HR : Hid (recvI kap cl b s r (t1, t2, tv) = (Rk, Rcl, Rb, Rs, Rr, Rw, Rc)) := hR
  dsimp only
  clear hR
  obtain ⟨g0, g1, g2, g3, g4, g5, g6, g7, g8, g9, hgg⟩ := ten (padR_len (zs := b) (by omega))
  have HG : Hid (padR b = [g0, g1, g2, g3, g4, g5, g6, g7, g8, g9]) := hgg
  clear hgg
  obtain ⟨W0, hW0⟩ : ∃ W0, W0 = ((w.alloc (.cells #[.int .i64 kap, .bool cl, .slice bo b.length bc, .slice so s.length sc, .slice ro r.length rc] 26)).alloc (.cells #[.int .i64 t1, .int .i64 t2, .int .i64 tv] 28)).alloc (.cells #[.int .i64 0, .bool false, .slice none 0 0, .slice none 0 0, .slice none 0 0] 26) := ⟨_, rfl⟩
  have hB0 : Below w.heap.size w W0 := by rw [hW0]; exact below3 _ _ _ _
  have A0 : BoxF5 W0 w.heap.size (.int .i64 kap) (.bool cl) (.slice bo b.length bc) (.slice so s.length sc) (.slice ro r.length rc) := by rw [hW0]; exact (BoxF5.new w _ _ _ _ _ _).later (below2 _ _ _)
  have R0 : BoxF5 W0 (w.heap.size + 1 + 1) (.int .i64 0) (.bool false) (.slice none 0 0) (.slice none 0 0) (.slice none 0 0) := by
    have h := BoxF5.new ((w.alloc (.cells #[.int .i64 kap, .bool cl, .slice bo b.length bc, .slice so s.length sc, .slice ro r.length rc] 26)).alloc (.cells #[.int .i64 t1, .int .i64 t2, .int .i64 tv] 28)) (.int .i64 0) (.bool false) (.slice none 0 0) (.slice none 0 0) (.slice none 0 0) 26
    rw [hW0]; simpa using h
  have T0 : Box3 W0 (w.heap.size + 1) (.int .i64 t1) (.int .i64 t2) (.int .i64 tv) := by
    have h := (Box3.new (w.alloc (.cells #[.int .i64 kap, .bool cl, .slice bo b.length bc, .slice so s.length sc, .slice ro r.length rc] 26)) (.int .i64 t1) (.int .i64 t2) (.int .i64 tv) 28).later (below1 _ (.cells #[.int .i64 0, .bool false, .slice none 0 0, .slice none 0 0, .slice none 0 0] 26))
    rw [hW0]; simpa using h
  have HW0 : Hid (W0 = ((w.alloc (.cells #[.int .i64 kap, .bool cl, .slice bo b.length bc, .slice so s.length sc, .slice ro r.length rc] 26)).alloc (.cells #[.int .i64 t1, .int .i64 t2, .int .i64 tv] 28)).alloc (.cells #[.int .i64 0, .bool false, .slice none 0 0, .slice none 0 0, .slice none 0 0] 26)) := hW0
  have HS0 : Hid (W0.heap.size = w.heap.size + 1 + 1 + 1) := by rw [hW0]; simp [Hid]
  clear hW0
  obtain ⟨⟨_, a0, a1, a2, a3, a4⟩, af0, af1, af2, af3, af4⟩ := id A0
  have P0 := (⟨a0, a1, a2, a3, a4⟩ : W0.cell? ⟨w.heap.size, 0, none⟩ = some (.int .i64 kap) ∧ W0.cell? ⟨w.heap.size, 1, none⟩ = some (.bool cl) ∧ W0.cell? ⟨w.heap.size, 2, none⟩ = some (.slice bo b.length bc) ∧ W0.cell? ⟨w.heap.size, 3, none⟩ = some (.slice so s.length sc) ∧ W0.cell? ⟨w.heap.size, 4, none⟩ = some (.slice ro r.length rc))
  have P0d := (⟨a0, a1, a2, a3, a4⟩ : W0.drew.cell? ⟨w.heap.size, 0, none⟩ = some (.int .i64 kap) ∧ W0.drew.cell? ⟨w.heap.size, 1, none⟩ = some (.bool cl) ∧ W0.drew.cell? ⟨w.heap.size, 2, none⟩ = some (.slice bo b.length bc) ∧ W0.drew.cell? ⟨w.heap.size, 3, none⟩ = some (.slice so s.length sc) ∧ W0.drew.cell? ⟨w.heap.size, 4, none⟩ = some (.slice ro r.length rc))
  have D := hB0.drew
  have D6 := (hB0.alloc hB0.size (.cells #[.int .i64 0, .bool false, .slice none 0 0, .slice none 0 0, .slice none 0 0] 26)).drew
  have D7 := (hB0.alloc hB0.size (.cells #[.int .i64 0, .int .i64 0, .int .i64 0, .int .i64 0, .int .i64 0, .int .i64 0, .int .i64 0, .int .i64 0, .int .i64 0, .int .i64 0, .int .i64 0, .int .i64 0] 52)).drew
  have D67 := ((hB0.alloc hB0.size (.cells #[.int .i64 0, .bool false, .slice none 0 0, .slice none 0 0, .slice none 0 0] 26)).alloc (hB0.alloc hB0.size (.cells #[.int .i64 0, .bool false, .slice none 0 0, .slice none 0 0, .slice none 0 0] 26)).size (.cells #[.int .i64 0, .int .i64 0, .int .i64 0, .int .i64 0, .int .i64 0, .int .i64 0, .int .i64 0, .int .i64 0, .int .i64 0, .int .i64 0, .int .i64 0, .int .i64 0] 52)).drew
  have D76 := ((hB0.alloc hB0.size (.cells #[.int .i64 0, .int .i64 0, .int .i64 0, .int .i64 0, .int .i64 0, .int .i64 0, .int .i64 0, .int .i64 0, .int .i64 0, .int .i64 0, .int .i64 0, .int .i64 0] 52)).alloc (hB0.alloc hB0.size (.cells #[.int .i64 0, .int .i64 0, .int .i64 0, .int .i64 0, .int .i64 0, .int .i64 0, .int .i64 0, .int .i64 0, .int .i64 0, .int .i64 0, .int .i64 0, .int .i64 0] 52)).size (.cells #[.int .i64 0, .bool false, .slice none 0 0, .slice none 0 0, .slice none 0 0] 26)).drew
  have n0 : w.heap.size + 1 + 1 < W0.heap.size := by rw [HS0.out]; omega
  go_enter Try.func25, Try.ntmps25
  go_upto_region 1 with fail
  rw [← HW0.out]
  go_cut [6, 7] (fun s6 s7 wx => ∃ p6 p7 lo hi bo5 bc5 so5 sc5 ro5 rc5, s6 = .pointer (some ⟨p6, 0, none⟩) ∧ s7 = .pointer (some ⟨p7, 0, none⟩) ∧ Hid (RelB W0 wx p6 p7 lo hi kap cl bo5 bc5 b so5 sc5 s ro5 rc5 r g0 g1 g2 g3 g4 g5 g6 g7 g8 g9))
  case first =>
    go_region_held3 (fun Y => Y.cell? ⟨w.heap.size, 0, none⟩ = some (.int .i64 kap) ∧ Y.cell? ⟨w.heap.size, 1, none⟩ = some (.bool cl) ∧ Y.cell? ⟨w.heap.size, 2, none⟩ = some (.slice bo b.length bc) ∧ Y.cell? ⟨w.heap.size, 3, none⟩ = some (.slice so s.length sc) ∧ Y.cell? ⟨w.heap.size, 4, none⟩ = some (.slice ro r.length rc))
      (first | (with_reducible exact P0) | (with_reducible exact P0d) | (with_reducible exact Pa) | (with_reducible exact Pb) | (refine ⟨?_, ?_, ?_, ?_, ?_⟩ <;> (try rw [World.cell?_drew]) <;> (repeat (first | rw [cell_under _ _ (by simp; omega)] | rw [World.cell?_setCell_other _ _ _ _ (addr_ne (by omega))])) <;> (with_reducible assumption)) | (trace_state; fail))
      (first
      | (go_at_call 13; refine (copyChan_any kap cl bo bc b so sc s ro rc r _ hl hls hlr (by first | exact hz.later D | exact hz.later D6 | exact hz.later D7 | exact hz.later D67 | exact hz.later D76)).mono ?_; rintro e wa ⟨⟨bo5, bc5, so5, sc5, ro5, rc5, rfl, hFa⟩, hba⟩; (first | (have tt := lay67d hba; have Fa : Hid (FreshCh (W0.heap.size + 1 + 1) wa.heap.size wa bo5 bc5 b so5 sc5 s ro5 rc5 r) := hFa.wide (by show _ ≤ (((W0.heap.push _).push _)).size; simp) (Nat.le_refl _); have ca : Below W0.heap.size W0 wa := tt.1; have z6a := tt.2.1; have z7a := tt.2.2; clear tt hba) | (have tt := lay76d hba; have Fa : Hid (FreshCh (W0.heap.size + 1 + 1) wa.heap.size wa bo5 bc5 b so5 sc5 s ro5 rc5 r) := hFa.wide (by show _ ≤ (((W0.heap.push _).push _)).size; simp) (Nat.le_refl _); have ca : Below W0.heap.size W0 wa := tt.1; have z7a := tt.2.1; have z6a := tt.2.2; clear tt hba) | (have tt := lay6d hba; have Fa : Hid (FreshCh (W0.heap.size + 1) wa.heap.size wa bo5 bc5 b so5 sc5 s ro5 rc5 r) := hFa.wide (by show _ ≤ ((W0.heap.push _)).size; simp) (Nat.le_refl _); have ca : Below W0.heap.size W0 wa := tt.1; have z6a := tt.2; clear tt hba) | (have tt := lay7d hba; have Fa : Hid (FreshCh (W0.heap.size + 1) wa.heap.size wa bo5 bc5 b so5 sc5 s ro5 rc5 r) := hFa.wide (by show _ ≤ ((W0.heap.push _)).size; simp) (Nat.le_refl _); have ca : Below W0.heap.size W0 wa := tt.1; have z7a := tt.2; clear tt hba) | (have ca : Below W0.heap.size W0 wa := lay0d hba; have Fa : Hid (FreshCh W0.heap.size wa.heap.size wa bo5 bc5 b so5 sc5 s ro5 rc5 r) := hFa; clear hba)); have Aa := A0.1.later ca; have Pa := (⟨Aa.2.1, Aa.2.2.1, Aa.2.2.2.1, Aa.2.2.2.2.1, Aa.2.2.2.2.2⟩ : wa.cell? ⟨w.heap.size, 0, none⟩ = some (.int .i64 kap) ∧ wa.cell? ⟨w.heap.size, 1, none⟩ = some (.bool cl) ∧ wa.cell? ⟨w.heap.size, 2, none⟩ = some (.slice bo b.length bc) ∧ wa.cell? ⟨w.heap.size, 3, none⟩ = some (.slice so s.length sc) ∧ wa.cell? ⟨w.heap.size, 4, none⟩ = some (.slice ro r.length rc)); obtain ⟨pa0, pa1, pa2, pa3, pa4⟩ := id Pa; have na := ca.size; have hBa := hB0.trans (ca.mono hB0.size); clear hFa)
      | (go_at_call 16; refine (ringOf_ten bo bc b g0 g1 g2 g3 g4 g5 g6 g7 g8 g9 HG.out _ hb10 (by first | exact hz.1.later (hBa) | exact hz.1.later (hBa.alloc hBa.size (.cells #[.int .i64 0, .bool false, .slice none 0 0, .slice none 0 0, .slice none 0 0] 26)) | exact hz.1.later (hBa.alloc hBa.size (.cells #[.int .i64 0, .int .i64 0, .int .i64 0, .int .i64 0, .int .i64 0, .int .i64 0, .int .i64 0, .int .i64 0, .int .i64 0, .int .i64 0, .int .i64 0, .int .i64 0] 52)) | exact hz.1.later ((hBa.alloc hBa.size (.cells #[.int .i64 0, .bool false, .slice none 0 0, .slice none 0 0, .slice none 0 0] 26)).alloc (hBa.alloc hBa.size (.cells #[.int .i64 0, .bool false, .slice none 0 0, .slice none 0 0, .slice none 0 0] 26)).size (.cells #[.int .i64 0, .int .i64 0, .int .i64 0, .int .i64 0, .int .i64 0, .int .i64 0, .int .i64 0, .int .i64 0, .int .i64 0, .int .i64 0, .int .i64 0, .int .i64 0] 52)) | exact hz.1.later ((hBa.alloc hBa.size (.cells #[.int .i64 0, .int .i64 0, .int .i64 0, .int .i64 0, .int .i64 0, .int .i64 0, .int .i64 0, .int .i64 0, .int .i64 0, .int .i64 0, .int .i64 0, .int .i64 0] 52)).alloc (hBa.alloc hBa.size (.cells #[.int .i64 0, .int .i64 0, .int .i64 0, .int .i64 0, .int .i64 0, .int .i64 0, .int .i64 0, .int .i64 0, .int .i64 0, .int .i64 0, .int .i64 0, .int .i64 0] 52)).size (.cells #[.int .i64 0, .bool false, .slice none 0 0, .slice none 0 0, .slice none 0 0] 26)))).mono ?_; rintro e wb ⟨rfl, hbb⟩; (first | (have tt := lay67 hbb; have cb : Below wa.heap.size wa wb := tt.1; have z6b := tt.2.1; have z7b := tt.2.2; clear tt hbb) | (have tt := lay76 hbb; have cb : Below wa.heap.size wa wb := tt.1; have z7b := tt.2.1; have z6b := tt.2.2; clear tt hbb) | (have tt := lay6 hbb; have cb : Below wa.heap.size wa wb := tt.1; have z6b := tt.2; (try (have z7b := z7a.later cb)); clear tt hbb) | (have tt := lay7 hbb; have cb : Below wa.heap.size wa wb := tt.1; have z7b := tt.2; (try (have z6b := z6a.later cb)); clear tt hbb) | (have cb : Below wa.heap.size wa wb := hbb; (try (have z6b := z6a.later cb)); (try (have z7b := z7a.later cb)); clear hbb)); have c0b : Below W0.heap.size W0 wb := ca.trans (cb.mono ca.size); have Ab := A0.1.later c0b; have Pb := (⟨Ab.2.1, Ab.2.2.1, Ab.2.2.2.1, Ab.2.2.2.2.1, Ab.2.2.2.2.2⟩ : wb.cell? ⟨w.heap.size, 0, none⟩ = some (.int .i64 kap) ∧ wb.cell? ⟨w.heap.size, 1, none⟩ = some (.bool cl) ∧ wb.cell? ⟨w.heap.size, 2, none⟩ = some (.slice bo b.length bc) ∧ wb.cell? ⟨w.heap.size, 3, none⟩ = some (.slice so s.length sc) ∧ wb.cell? ⟨w.heap.size, 4, none⟩ = some (.slice ro r.length rc)); obtain ⟨pb0, pb1, pb2, pb3, pb4⟩ := id Pb; have nb := cb.size; (try (obtain ⟨⟨_, e0, e1, e2, e3, e4⟩, ef0, ef1, ef2, ef3, ef4⟩ := id z6b)); (try (have z7bc0 := z7b.cell (i := 0) (by omega); have z7bc1 := z7b.cell (i := 1) (by omega); have z7bc2 := z7b.cell (i := 2) (by omega); have z7bc3 := z7b.cell (i := 3) (by omega); have z7bc4 := z7b.cell (i := 4) (by omega); have z7bc5 := z7b.cell (i := 5) (by omega); have z7bc6 := z7b.cell (i := 6) (by omega); have z7bc7 := z7b.cell (i := 7) (by omega); have z7bc8 := z7b.cell (i := 8) (by omega); have z7bc9 := z7b.cell (i := 9) (by omega); have z7bc10 := z7b.first; have z7bc11 := z7b.many; have z7bf0 := z7b.soft 0; have z7bf1 := z7b.soft 1; have z7bf2 := z7b.soft 2; have z7bf3 := z7b.soft 3; have z7bf4 := z7b.soft 4; have z7bf5 := z7b.soft 5; have z7bf6 := z7b.soft 6; have z7bf7 := z7b.soft 7; have z7bf8 := z7b.soft 8; have z7bf9 := z7b.soft 9; have z7bf10 := z7b.soft 10; have z7bf11 := z7b.soft 11)); (try (have hq6 := box_ring_ne z6b z7b; have hq7 := hq6.symm; have z7s := ring_sets6 z6b z7b (.int .i64 kap) (.bool cl) (.slice bo5 b.length bc5) (.slice so5 s.length sc5) (.slice ro5 r.length rc5); have z7sc0 := z7s.cell (i := 0) (by omega); have z7sc1 := z7s.cell (i := 1) (by omega); have z7sc2 := z7s.cell (i := 2) (by omega); have z7sc3 := z7s.cell (i := 3) (by omega); have z7sc4 := z7s.cell (i := 4) (by omega); have z7sc5 := z7s.cell (i := 5) (by omega); have z7sc6 := z7s.cell (i := 6) (by omega); have z7sc7 := z7s.cell (i := 7) (by omega); have z7sc8 := z7s.cell (i := 8) (by omega); have z7sc9 := z7s.cell (i := 9) (by omega); have z7sc10 := z7s.first; have z7sc11 := z7s.many; have z7sf0 := z7s.soft 0; have z7sf1 := z7s.soft 1; have z7sf2 := z7s.soft 2; have z7sf3 := z7s.soft 3; have z7sf4 := z7s.soft 4; have z7sf5 := z7s.soft 5; have z7sf6 := z7s.soft 6; have z7sf7 := z7s.soft 7; have z7sf8 := z7s.soft 8; have z7sf9 := z7s.soft 9; have z7sf10 := z7s.soft 10; have z7sf11 := z7s.soft 11)); (try (have z7c := z7b.later (below1 wb (.cells #[.int .i64 kap, .bool cl, .slice bo5 b.length bc5, .slice so5 s.length sc5, .slice ro5 r.length rc5] 26)); have z7cc0 := z7c.cell (i := 0) (by omega); have z7cc1 := z7c.cell (i := 1) (by omega); have z7cc2 := z7c.cell (i := 2) (by omega); have z7cc3 := z7c.cell (i := 3) (by omega); have z7cc4 := z7c.cell (i := 4) (by omega); have z7cc5 := z7c.cell (i := 5) (by omega); have z7cc6 := z7c.cell (i := 6) (by omega); have z7cc7 := z7c.cell (i := 7) (by omega); have z7cc8 := z7c.cell (i := 8) (by omega); have z7cc9 := z7c.cell (i := 9) (by omega); have z7cc10 := z7c.first; have z7cc11 := z7c.many; have z7cf0 := z7c.soft 0; have z7cf1 := z7c.soft 1; have z7cf2 := z7c.soft 2; have z7cf3 := z7c.soft 3; have z7cf4 := z7c.soft 4; have z7cf5 := z7c.soft 5; have z7cf6 := z7c.soft 6; have z7cf7 := z7c.soft 7; have z7cf8 := z7c.soft 8; have z7cf9 := z7c.soft 9; have z7cf10 := z7c.soft 10; have z7cf11 := z7c.soft 11))))
    all_goals
      go_wp2_with fail
      go_meet
      have Fb := Fa.out.later cb
      first
        | (have _a := z6b
           have _b := z7b
           exact ⟨_, _, _, _, bo5, bc5, so5, sc5, ro5, rc5, rfl, rfl, relD c0b Fb (by omega) nb z6b (by omega) (by omega) z7b (by omega) (by omega) g0 g1 g2 g3 g4 g5 g6 g7 g8 g9⟩)
        | (have _a := z6b
           exact ⟨_, _, _, _, bo5, bc5, so5, sc5, ro5, rc5, rfl, rfl, relC c0b Fb (by omega) nb z6b (by omega) (by omega) g0 g1 g2 g3 g4 g5 g6 g7 g8 g9⟩)
        | (have _b := z7b
           exact ⟨_, _, _, _, bo5, bc5, so5, sc5, ro5, rc5, rfl, rfl, relE c0b Fb (by omega) nb z7b (by omega) (by omega) g0 g1 g2 g3 g4 g5 g6 g7 g8 g9⟩)
        | exact ⟨wb.heap.size, wb.heap.size + 1, _, _, bo5, bc5, so5, sc5, ro5, rc5, rfl, rfl, relA c0b Fb (by omega) nb g0 g1 g2 g3 g4 g5 g6 g7 g8 g9⟩
        | exact ⟨wb.heap.size + 1, wb.heap.size, _, _, bo5, bc5, so5, sc5, ro5, rc5, rfl, rfl, relB c0b Fb (by omega) nb g0 g1 g2 g3 g4 g5 g6 g7 g8 g9⟩
  case rest =>
    obtain ⟨p6, p7, lo, hi, bo5, bc5, so5, sc5, ro5, rc5, rfl, rfl, hcut⟩ := hcut
    obtain ⟨c, B1, G1, F1, e67, n6, n7, nlo, nhi, o6, o7⟩ := hcut.out
    have A1 := A0.later c
    have R1 := R0.later c
    have T1 := T0.later c
    have l6 := B1.1.1
    have l7 := G1.lt
    have F1' : Hid (FreshCh lo hi wc bo5 bc5 b so5 sc5 s ro5 rc5 r) := F1
    clear hcut F1 a0 a1 a2 a3 a4 af0 af1 af2 af3 af4 A0 R0 T0 P0 P0d D D6 D7 D67 D76 HW0
    have Q1 := (⟨T1.2.1, T1.2.2.1, T1.2.2.2⟩ : wc.cell? ⟨w.heap.size + 1, 0, none⟩ = some (.int .i64 t1) ∧ wc.cell? ⟨w.heap.size + 1, 1, none⟩ = some (.int .i64 t2) ∧ wc.cell? ⟨w.heap.size + 1, 2, none⟩ = some (.int .i64 tv))
    have Q1d := (⟨T1.2.1, T1.2.2.1, T1.2.2.2⟩ : wc.drew.cell? ⟨w.heap.size + 1, 0, none⟩ = some (.int .i64 t1) ∧ wc.drew.cell? ⟨w.heap.size + 1, 1, none⟩ = some (.int .i64 t2) ∧ wc.drew.cell? ⟨w.heap.size + 1, 2, none⟩ = some (.int .i64 tv))
    obtain ⟨_, s0, s1, s2⟩ := id T1
    go_upto_region 2 with fail
    go_region_held3 (fun Y => Y.cell? ⟨w.heap.size + 1, 0, none⟩ = some (.int .i64 t1) ∧ Y.cell? ⟨w.heap.size + 1, 1, none⟩ = some (.int .i64 t2) ∧ Y.cell? ⟨w.heap.size + 1, 2, none⟩ = some (.int .i64 tv))
      (first | (with_reducible exact Q1) | (with_reducible exact Q1d) | (with_reducible exact Q2) | (with_reducible exact Q3) | (with_reducible exact Q4))
      (first
        | (go_at_call 44; refine (take_ten p7 g0 g1 g2 g3 g4 g5 g6 g7 g8 g9 b.length wc.drew G1.drew hb0 hb10).mono ?_; rintro e w2 ⟨rfl, G2, O2⟩; have O2' : OnlyAt (some ⟨p7, 0, none⟩) wc w2 := ⟨O2.os, O2.tape, O2.output, O2.size, O2.block⟩; have T2 := T1.only O2' (by omega); have Q2 := (⟨T2.2.1, T2.2.2.1, T2.2.2.2⟩ : w2.cell? ⟨w.heap.size + 1, 0, none⟩ = some (.int .i64 t1) ∧ w2.cell? ⟨w.heap.size + 1, 1, none⟩ = some (.int .i64 t2) ∧ w2.cell? ⟨w.heap.size + 1, 2, none⟩ = some (.int .i64 tv)); have z2 : w2.heap.size = wc.heap.size := O2'.size; have H2 : Hid (Below W0.heap.size W0 w2 ∧ BoxF5 w2 w.heap.size (.int .i64 kap) (.bool cl) (.slice bo b.length bc) (.slice so s.length sc) (.slice ro r.length rc) ∧ BoxF5 w2 (w.heap.size + 1 + 1) (.int .i64 0) (.bool false) (.slice none 0 0) (.slice none 0 0) (.slice none 0 0) ∧ BoxF5 w2 p6 (.int .i64 kap) (.bool cl) (.slice bo5 b.length bc5) (.slice so5 s.length sc5) (.slice ro5 r.length rc5) ∧ FreshCh lo hi w2 bo5 bc5 b so5 sc5 s ro5 rc5 r ∧ w2.heap.size = wc.heap.size) := ⟨c.trans (O2'.below n7), A1.only O2' (by omega), R1.only O2' (by omega), B1.only O2' e67, FreshCh.only F1'.out O2' o7, z2⟩; clear O2 O2' z2)
        | (go_at_call 15; refine (wake_any t1 t2 tv g0 true w2).mono ?_; rintro e w3 ⟨rfl, hb3⟩; have T3x := T2.later hb3; have Q3 := (⟨T3x.2.1, T3x.2.2.1, T3x.2.2.2⟩ : w3.cell? ⟨w.heap.size + 1, 0, none⟩ = some (.int .i64 t1) ∧ w3.cell? ⟨w.heap.size + 1, 1, none⟩ = some (.int .i64 t2) ∧ w3.cell? ⟨w.heap.size + 1, 2, none⟩ = some (.int .i64 tv)); have T4x := T3x.later (below1 w3 (.cells #[.int .i64 t1, .int .i64 t2, .int .i64 g0, .bool true] 35)); have Q4 := (⟨T4x.2.1, T4x.2.2.1, T4x.2.2.2⟩ : (w3.alloc (.cells #[.int .i64 t1, .int .i64 t2, .int .i64 g0, .bool true] 35)).cell? ⟨w.heap.size + 1, 0, none⟩ = some (.int .i64 t1) ∧ (w3.alloc (.cells #[.int .i64 t1, .int .i64 t2, .int .i64 g0, .bool true] 35)).cell? ⟨w.heap.size + 1, 1, none⟩ = some (.int .i64 t2) ∧ (w3.alloc (.cells #[.int .i64 t1, .int .i64 t2, .int .i64 g0, .bool true] 35)).cell? ⟨w.heap.size + 1, 2, none⟩ = some (.int .i64 tv)))) 
    all_goals
      obtain ⟨c2, A2, R2, B2, F2, z2⟩ := H2.out
      obtain ⟨W4, hW4⟩ : ∃ W4, W4 = w3.alloc (.cells #[.int .i64 t1, .int .i64 t2, .int .i64 g0, .bool true] 35) := ⟨_, rfl⟩
      have h4 : Below w2.heap.size w2 W4 := by rw [hW4]; exact hb3.trans ((below1 _ _).mono hb3.size)
      have A4 := A2.later h4
      have R4 := R2.later h4
      have B4 := B2.later h4
      have G4 := G2.later h4
      have F4 : Hid (FreshCh lo hi W4 bo5 bc5 b so5 sc5 s ro5 rc5 r) := F2.later h4
      have c4 : Below W0.heap.size W0 W4 := c2.trans (h4.mono c2.size)
      have n3 : wc.heap.size ≤ w3.heap.size := by rw [← z2]; exact hb3.size
      have z4 : W4.heap.size = w3.heap.size + 1 := by rw [hW4]; simp
      have K4 : Hid (OwnK w3.heap.size W4 (.slice (some ⟨w3.heap.size, 0, none⟩) 1 1) [(t1, t2, g0, true)]) := by
        rw [hW4]
        refine ⟨rfl, .inr ⟨w3.heap.size, 1, (kcells [(t1, t2, g0, true)]).toArray, rfl, Nat.le_refl _, heap_new w3 _, Nat.le_refl _, by unfold maxLen; omega, rfl, rfl⟩⟩
      have HW4 : Hid (W4 = w3.alloc (.cells #[.int .i64 t1, .int .i64 t2, .int .i64 g0, .bool true] 35)) := hW4
      have HZ4 : Hid (W4.heap.size = w3.heap.size + 1) := z4
      clear hW4 h4 A2 R2 B2 G2 F2 c2 z2 hb3 H2 T2 T3x T4x Q1 Q1d Q2 Q3 Q4 A1 R1 B1 G1 F1' T1 s0 s1 s2 z4
      obtain ⟨⟨_, a0, a1, a2, a3, a4⟩, af0, af1, af2, af3, af4⟩ := id A4
      have hbe : ((b.length - 1 : Nat) : Int) = (b.length : Int) - 1 := by omega
      by_cases hs : s.length = 0
      · obtain ⟨zs, ps, qs⟩ := len0 hs
        have HRI : Hid (b.drop 1 = Rb ∧ s = Rs ∧ [(t1, t2, g0, true)] = Rw) := by
          have h := HR.out
          rw [recvI, if_pos (by omega), if_pos hs, pad_first b hb0 HG.out] at h
          simp only [Prod.mk.injEq] at h
          exact ⟨h.2.2.1, h.2.2.2.1, h.2.2.2.2.2.1⟩
        clear hs
        rw [← HW4.out]
        go_wp2_with fail
        rw [← hbe] at G4
        refine (list1_any p7 [g0, g1, g2, g3, g4, g5, g6, g7, g8, g9] (b.length - 1) W4 G4 (by omega)).mono ?_
        rintro e w5 ⟨⟨go5, rfl, hF5⟩, hb5⟩
        have hpd := pad_drop b hb0
        rw [HG.out] at hpd
        rw [hpd] at hF5
        have B5 := B4.later hb5
        have R5 := R4.later hb5
        have z4 := HZ4.out
        have n5 := hb5.size
        have hq := HS0.out
        obtain ⟨W6, hW6⟩ : ∃ W6, W6 = w5.setCell ⟨p6, 2, none⟩ (.slice go5 (b.length - 1) (b.length - 1)) := ⟨_, rfl⟩
        have FW : Hid (FreshCh W0.heap.size w5.heap.size W6 go5 (b.length - 1) (b.drop 1) so5 sc5 s ro5 rc5 r) := by
          have h5 := F4.out.later hb5
          rw [hW6]
          exact ⟨FreshI.wide (hF5.setBelow (by simp; omega) _) (by omega) (Nat.le_refl _), FreshC.wide (lo := lo) (hi := hi) (h5.2.1.keep fun k h1 h2 _ => Below.heap_setCell _ _ _ k (by simp; omega)) nlo (by omega), FreshC.wide (lo := lo) (hi := hi) (h5.2.2.1.keep fun k h1 h2 _ => Below.heap_setCell _ _ _ k (by simp; omega)) nlo (by omega), h5.2.2.2⟩
        have FK : Hid (FreshK w3.heap.size W4.heap.size W6 (some ⟨w3.heap.size, 0, none⟩) 1 [(t1, t2, g0, true)]) := by
          obtain ⟨ko, kc, e, hk⟩ := K4.out.fresh
          cases e
          rw [hW6]
          exact (hk.later hb5).keep fun k h1 h2 _ => Below.heap_setCell _ _ _ k (by simp; omega)
        have z6 : W6.heap.size = w5.heap.size := by rw [hW6]; simp
        have BW : Hid (Below w.heap.size w W6) := by
          rw [hW6]; exact ((hB0.trans ((c4.trans (hb5.mono c4.size)).mono hB0.size)).setCell (p := ⟨p6, 2, none⟩) (by simp; omega) _)
        have HLN : Hid (b.length - 1 = (b.drop 1).length) := by simp [Hid]
        have HQ : Hid (w.heap.size + 1 + 1 < W0.heap.size ∧ W0.heap.size ≤ w3.heap.size ∧ W4.heap.size ≤ w5.heap.size ∧ W6.heap.size = w5.heap.size) := ⟨by omega, by omega, by omega, z6⟩
        have HW6 : Hid (W6 = w5.setCell ⟨p6, 2, none⟩ (.slice go5 (b.length - 1) (b.length - 1))) := hW6
        obtain ⟨⟨_, b0, b1, b2, b3, b4⟩, bf0, bf1, bf2, bf3, bf4⟩ := id B5
        obtain ⟨⟨_, r0, r1, r2, r3, r4⟩, rf0, rf1, rf2, rf3, rf4⟩ := id R5
        have hqp : w.heap.size + 1 + 1 ≠ p6 := by omega
        have hqp' : p6 ≠ w.heap.size + 1 + 1 := hqp.symm
        clear hW6 z6 hF5 hb5 B5 R5 A4 R4 B4 G4 a0 a1 a2 a3 a4 af0 af1 af2 af3 af4 HW4 hpd z4 n5 hq
        go_wp2
        refine bodyPost_ret (v := .tuple #[.agg #[.int .i64 kap, .bool cl, .slice go5 (b.length - 1) (b.length - 1), .slice so5 s.length sc5, .slice ro5 r.length rc5], .slice (some ⟨w3.heap.size, 0, none⟩) 1 1]) (by simp [results, Try.results25, go_sem, r0, r1, r2, r3, r4]) rfl ?_
        rw [← HW6.out]
        obtain ⟨e1, e2, e3⟩ := HRI.out
        subst e1 e2 e3
        rw [HLN.out]
        exact ansY_gen (q := w.heap.size + 1 + 1) (k := [(t1, t2, g0, true)]) BW.out (by omega) (by rw [← HLN.out]; exact FW.out) (.inl HQ.out.1) hB0.size (by rw [HQ.out.2.2.2]; exact Nat.le_refl _) FK.out (.inl (by have := HQ.out; omega)) (by have := HQ.out; omega) (by have := HQ.out; omega) _ _ _ _ _
      · obtain ⟨x1, x2, x3, hx⟩ : ∃ x1 x2 x3, t3 s 0 = (x1, x2, x3) := ⟨_, _, _, rfl⟩
        have HS1 : Hid (0 < s.length) := by show 0 < s.length; omega
        have pd : decide ((0 : Int) < (s.length : Int)) = true := by simp; omega
        obtain ⟨D, hD⟩ : ∃ D, D = s.drop 1 := ⟨_, rfl⟩
        have HRI : Hid (b.drop 1 ++ [x3] = Rb ∧ D = Rs ∧ [(t1, t2, g0, true), (x1, x2, 0, true)] = Rw) := by
          have h := HR.out
          rw [recvI, if_pos (by omega), if_neg hs, pad_first b hb0 HG.out, hx, ← hD] at h
          simp only [Prod.mk.injEq] at h
          exact ⟨h.2.2.1, h.2.2.2.1, h.2.2.2.2.2.1⟩
        have HX : Hid (t3 s 0 = (x1, x2, x3)) := hx
        have HD : Hid (D = s.drop 1) := hD
        have HZS : Hid (TimersIn W4.heap.size W4 so s) := (hz.later (hB0.trans (c4.mono hB0.size))).2.1
        clear hs hx hD
        rw [← HW4.out]
        go_wp2_with fail
        refine (firstAndOthers_any so sc s x1 x2 x3 W4 hls HS1.out HX.out HZS.out).mono ?_
        rintro e w5 ⟨⟨go5, gc5, rfl, hF5⟩, hb5⟩
        rw [← HD.out] at hF5 ⊢
        obtain ⟨W5, hW5⟩ : ∃ W5, W5 = w5.alloc (.cells #[.int .i64 x1, .int .i64 x2, .int .i64 x3] 28) := ⟨_, rfl⟩
        have h5 : Below W4.heap.size W4 W5 := by rw [hW5]; exact hb5.trans ((below1 _ _).mono hb5.size)
        have S5 : Box3 W5 w5.heap.size (.int .i64 x1) (.int .i64 x2) (.int .i64 x3) := by rw [hW5]; exact Box3.new _ _ _ _ _
        have B5 := B4.later h5
        have R5 := R4.later h5
        have G5 := G4.later h5
        have F5 : Hid (FreshCh lo hi W5 bo5 bc5 b so5 sc5 s ro5 rc5 r ∧ FreshC W4.heap.size w5.heap.size W5 go5 gc5 D) := ⟨F4.out.later h5, by rw [hW5]; exact hF5.later (below1 _ _)⟩
        have K5 : Hid (OwnK w3.heap.size W5 (.slice (some ⟨w3.heap.size, 0, none⟩) 1 1) [(t1, t2, g0, true)]) := K4.out.below h5
        have c5 : Below W0.heap.size W0 W5 := c4.trans (h5.mono c4.size)
        have n5 : W4.heap.size ≤ w5.heap.size := hb5.size
        have HZ5 : Hid (W5.heap.size = w5.heap.size + 1) := by rw [hW5]; simp [Hid]
        have HW5 : Hid (W5 = w5.alloc (.cells #[.int .i64 x1, .int .i64 x2, .int .i64 x3] 28)) := hW5
        clear hW5 h5 hb5 hF5 A4 R4 B4 G4 F4 K4 c4 a0 a1 a2 a3 a4 af0 af1 af2 af3 af4 HZS HX pd HW4
        rw [← hbe] at G5
        have hz4 := HZ4.out
        have hz5 := HZ5.out
        have np7 : p7 < w3.heap.size := by omega
        have np6 : p6 < w3.heap.size := by omega
        have hn4 : w3.heap.size < w5.heap.size := by omega
        clear hz4 hz5
        go_wp2_with fail
        rw [← HW5.out]
        refine (put_any p7 [g0, g1, g2, g3, g4, g5, g6, g7, g8, g9] 1 (b.length - 1) (b.length % 10) x3 W5 (by exact G5) (by omega) (by omega) (by omega) (by omega)).mono ?_
        rintro e w6 ⟨⟨u, rfl⟩, G6, O6⟩
        have B6 := B5.only O6 e67
        have R6 := R5.only O6 (by omega)
        have S6 := S5.only O6 (by omega)
        have F6 : Hid (FreshCh lo hi w6 bo5 bc5 b so5 sc5 s ro5 rc5 r ∧ FreshC W4.heap.size w5.heap.size w6 go5 gc5 D) := ⟨FreshCh.only F5.out.1 O6 o7, F5.out.2.keep fun k h1 h2 _ => O6.block k (fun g e => by cases e; have := HZ4.out; omega)⟩
        have K6 : Hid (OwnK w3.heap.size w6 (.slice (some ⟨w3.heap.size, 0, none⟩) 1 1) [(t1, t2, g0, true)]) := owns_block K5.out (O6.block _ (fun g e => by cases e; omega))
        have c6 : Below W0.heap.size W0 w6 := c5.trans (O6.below n7)
        have z6 : Hid (w6.heap.size = W5.heap.size) := O6.size
        clear B5 R5 S5 F5 K5 c5 G5 O6
        obtain ⟨W7, hW7⟩ : ∃ W7, W7 = w6.setCell ⟨p6, 3, none⟩ (.slice go5 D.length gc5) := ⟨_, rfl⟩
        have B7 : BoxF5 W7 p6 (.int .i64 kap) (.bool cl) (.slice bo5 b.length bc5) (.slice go5 D.length gc5) (.slice ro5 r.length rc5) := by rw [hW7]; exact B6.set3 _
        have R7 : BoxF5 W7 (w.heap.size + 1 + 1) (.int .i64 0) (.bool false) (.slice none 0 0) (.slice none 0 0) (.slice none 0 0) := by rw [hW7]; exact R6.other _ (by simp; omega) _
        have S7 : Box3 W7 w5.heap.size (.int .i64 x1) (.int .i64 x2) (.int .i64 x3) := by rw [hW7]; exact S6.only (OnlyAt.set p6 3 w6 _) (by omega)
        have G7 : RingB W7 p7 (([g0, g1, g2, g3, g4, g5, g6, g7, g8, g9] : List Int).set (b.length % 10) x3) 1 (((b.length - 1 : Nat) : Int) + 1) := by rw [hW7]; exact ⟨G6.1, by rw [Below.heap_setCell _ _ _ _ (fun h => e67 h.symm)]; exact G6.2⟩
        have F7 : Hid (FreshCh lo hi W7 bo5 bc5 b so5 sc5 s ro5 rc5 r ∧ FreshC W4.heap.size w5.heap.size W7 go5 gc5 D) := by rw [hW7]; exact ⟨FreshCh.only F6.out.1 (OnlyAt.set p6 3 w6 _) o6, F6.out.2.keep fun k h1 h2 _ => Below.heap_setCell _ _ _ k (by have := HZ4.out; simp; omega)⟩
        have K7 : Hid (OwnK w3.heap.size W7 (.slice (some ⟨w3.heap.size, 0, none⟩) 1 1) [(t1, t2, g0, true)]) := by rw [hW7]; exact owns_block K6.out (Below.heap_setCell _ _ _ _ (by simp; omega))
        have c7 : Below W0.heap.size W0 W7 := by rw [hW7]; exact c6.setCell (p := ⟨p6, 3, none⟩) n6 _
        have z7 : Hid (W7.heap.size = w5.heap.size + 1) := by rw [hW7]; show (w6.setCell _ _).heap.size = _; simp; rw [z6.out, HZ5.out]
        have y0 : (w6.setCell ⟨p6, 3, none⟩ (.slice go5 D.length gc5)).cell? ⟨w5.heap.size, 0, none⟩ = some (.int .i64 x1) := by rw [← hW7]; exact S7.2.1
        have y1 : (w6.setCell ⟨p6, 3, none⟩ (.slice go5 D.length gc5)).cell? ⟨w5.heap.size, 1, none⟩ = some (.int .i64 x2) := by rw [← hW7]; exact S7.2.2.1
        have y2 : (w6.setCell ⟨p6, 3, none⟩ (.slice go5 D.length gc5)).cell? ⟨w5.heap.size, 2, none⟩ = some (.int .i64 x3) := by rw [← hW7]; exact S7.2.2.2
        obtain ⟨⟨_, b0, b1, b2, b3, b4⟩, bf0, bf1, bf2, bf3, bf4⟩ := id B6
        have HW7 : Hid (W7 = w6.setCell ⟨p6, 3, none⟩ (.slice go5 D.length gc5)) := hW7
        clear hW7 B6 R6 S6 F6 K6 c6 G6
        go_wp2_with fail
        rw [← HW7.out]
        clear y0 y1 y2 b0 b1 b2 b3 b4 bf0 bf1 bf2 bf3 bf4 HW7
        refine (wake_any x1 x2 x3 0 true W7).mono ?_
        rintro e w8 ⟨rfl, hb8⟩
        have h8 : Below W7.heap.size W7 (w8.alloc (.cells #[.int .i64 x1, .int .i64 x2, .int .i64 0, .bool true] 35)) := hb8.trans ((below1 _ _).mono hb8.size)
        have K8 : Hid (OwnK w3.heap.size (w8.alloc (.cells #[.int .i64 x1, .int .i64 x2, .int .i64 0, .bool true] 35)) (.slice (some ⟨w3.heap.size, 0, none⟩) 1 1) [(t1, t2, g0, true)]) := K7.out.below h8
        have n8 : Hid (w5.heap.size + 1 ≤ w8.heap.size) := by have := hb8.size; rw [z7.out] at this; exact this
        have H8 : Hid (BoxF5 (w8.alloc (.cells #[.int .i64 x1, .int .i64 x2, .int .i64 0, .bool true] 35)) p6 (.int .i64 kap) (.bool cl) (.slice bo5 b.length bc5) (.slice go5 D.length gc5) (.slice ro5 r.length rc5) ∧ BoxF5 (w8.alloc (.cells #[.int .i64 x1, .int .i64 x2, .int .i64 0, .bool true] 35)) (w.heap.size + 1 + 1) (.int .i64 0) (.bool false) (.slice none 0 0) (.slice none 0 0) (.slice none 0 0) ∧ RingB (w8.alloc (.cells #[.int .i64 x1, .int .i64 x2, .int .i64 0, .bool true] 35)) p7 (([g0, g1, g2, g3, g4, g5, g6, g7, g8, g9] : List Int).set (b.length % 10) x3) 1 (((b.length - 1 : Nat) : Int) + 1) ∧ FreshCh lo hi (w8.alloc (.cells #[.int .i64 x1, .int .i64 x2, .int .i64 0, .bool true] 35)) bo5 bc5 b so5 sc5 s ro5 rc5 r ∧ FreshC W4.heap.size w5.heap.size (w8.alloc (.cells #[.int .i64 x1, .int .i64 x2, .int .i64 0, .bool true] 35)) go5 gc5 D ∧ Below W0.heap.size W0 (w8.alloc (.cells #[.int .i64 x1, .int .i64 x2, .int .i64 0, .bool true] 35))) := ⟨B7.later h8, R7.later h8, G7.later h8, F7.out.1.later h8, F7.out.2.later h8, c7.trans (h8.mono c7.size)⟩
        clear hb8 h8 B7 R7 S7 G7 F7 K7 c7
        go_wp2_with (at_builtin; refine wpList_pushKG (w8.alloc (.cells #[.int .i64 x1, .int .i64 x2, .int .i64 0, .bool true] 35)) rfl (.tmp 35) (.tmp 38) rfl w3.heap.size (.slice (some ⟨w3.heap.size, 0, none⟩) 1 1) [(t1, t2, g0, true)] rfl K8.out (by have := n8.out; simp; omega) (by simp) w8.heap.size (x1, x2, 0, true) 1 rfl (by simp) (by simp) (by simp) (by simp) ?_; intro v9 w9 hO9 hB9 hG9; obtain ⟨ko, kc, rfl, hk9⟩ := hO9.fresh; have H9 : Hid (FreshK w3.heap.size w9.heap.size w9 ko kc [(t1, t2, g0, true), (x1, x2, 0, true)] ∧ Below w3.heap.size (w8.alloc (.cells #[.int .i64 x1, .int .i64 x2, .int .i64 0, .bool true] 35)) w9 ∧ (w8.alloc (.cells #[.int .i64 x1, .int .i64 x2, .int .i64 0, .bool true] 35)).grownBy w9 (some w3.heap.size)) := ⟨hk9, hB9, hG9⟩; clear hO9 hB9 hG9 hk9)
        obtain ⟨FK9, hB9, hG9⟩ := H9.out
        obtain ⟨B8, R8, G8, F81, F82, c8⟩ := H8.out
        have hz4 := HZ4.out
        have hn8 := n8.out
        have SA : ∀ k, k < w8.heap.size + 1 → k ≠ w3.heap.size → w9.heap[k]? = (w8.alloc (.cells #[.int .i64 x1, .int .i64 x2, .int .i64 0, .bool true] 35)).heap[k]? := fun k h1 h2 => hG9.block k (by simp; omega) (fun e => by cases e; exact h2 rfl)
        have hs9 : w8.heap.size + 1 ≤ w9.heap.size := by have := hB9.size; simpa using this
        have B9 : BoxF5 w9 p6 (.int .i64 kap) (.bool cl) (.slice bo5 b.length bc5) (.slice go5 D.length gc5) (.slice ro5 r.length rc5) := B8.same (SA p6 (by omega) (by omega)) hB9.size
        have R9 : BoxF5 w9 (w.heap.size + 1 + 1) (.int .i64 0) (.bool false) (.slice none 0 0) (.slice none 0 0) (.slice none 0 0) := R8.same (SA _ (by omega) (by omega)) hB9.size
        have G9 : RingB w9 p7 ((padR b).set (b.length % 10) x3) 1 (b.length : Int) := by
          have h : RingB w9 p7 (([g0, g1, g2, g3, g4, g5, g6, g7, g8, g9] : List Int).set (b.length % 10) x3) 1 (((b.length - 1 : Nat) : Int) + 1) := ⟨G8.1, by rw [SA p7 (by omega) (by omega)]; exact G8.2⟩
          rw [HG.out, show (b.length : Int) = ((b.length - 1 : Nat) : Int) + 1 from by omega]; exact h
        have F9 : Hid (FreshCh lo hi w9 bo5 bc5 b so5 sc5 s ro5 rc5 r ∧ FreshC W4.heap.size w5.heap.size w9 go5 gc5 D) := ⟨⟨F81.1.keep fun k h1 h2 _ => SA k (by omega) (by omega), F81.2.1.keep fun k h1 h2 _ => SA k (by omega) (by omega), F81.2.2.1.keep fun k h1 h2 _ => SA k (by omega) (by omega), F81.2.2.2⟩, F82.keep fun k h1 h2 _ => SA k (by omega) (by omega)⟩
        have c9 : Below W0.heap.size W0 w9 := c8.trans (hB9.mono (by omega))
        have HK9 : Hid (FreshK w3.heap.size w9.heap.size w9 ko kc [(t1, t2, g0, true), (x1, x2, 0, true)]) := FK9
        clear FK9 hB9 hG9 B8 R8 G8 F81 F82 c8 SA H8 H9 K8
        refine (listP_any p7 b x3 w9 hb0 hb10 G9).mono ?_
        rintro e wA ⟨⟨goA, rfl, hFA⟩, hbA⟩
        have BA := B9.later hbA
        have RA := R9.later hbA
        have nA := hbA.size
        obtain ⟨W6, hW6⟩ : ∃ W6, W6 = wA.setCell ⟨p6, 2, none⟩ (.slice goA b.length b.length) := ⟨_, rfl⟩
        have hq := HS0.out
        have hap : Apart go5 _ D ro5 _ r := (apart_of F9.out.1.2.2.1 F9.out.2 (by omega)).symm
        have FW : Hid (FreshCh W0.heap.size wA.heap.size W6 goA b.length (b.drop 1 ++ [x3]) go5 gc5 D ro5 rc5 r) := by
          rw [hW6]
          exact ⟨FreshI.wide (hFA.setBelow (by simp; omega) _) (by omega) (Nat.le_refl _), FreshC.wide (lo := W4.heap.size) (hi := w5.heap.size) ((F9.out.2.later hbA).keep fun k h1 h2 _ => Below.heap_setCell _ _ _ k (by simp; omega)) (by omega) (by omega), FreshC.wide (lo := lo) (hi := hi) ((F9.out.1.2.2.1.later hbA).keep fun k h1 h2 _ => Below.heap_setCell _ _ _ k (by simp; omega)) nlo (by omega), hap⟩
        have FK : Hid (FreshK w3.heap.size w9.heap.size W6 ko kc [(t1, t2, g0, true), (x1, x2, 0, true)]) := by
          rw [hW6]
          exact (HK9.out.later hbA).keep fun k h1 h2 _ => Below.heap_setCell _ _ _ k (by simp; omega)
        have zA : W6.heap.size = wA.heap.size := by rw [hW6]; simp
        have BW : Hid (Below w.heap.size w W6) := by
          rw [hW6]; exact ((hB0.trans ((c9.trans (hbA.mono c9.size)).mono hB0.size)).setCell (p := ⟨p6, 2, none⟩) (by simp; omega) _)
        have HLN : Hid (b.length = (b.drop 1 ++ [x3]).length) := by show b.length = _; simp; omega
        have HQ : Hid (w.heap.size + 1 + 1 < W0.heap.size ∧ W0.heap.size ≤ w3.heap.size ∧ w9.heap.size ≤ wA.heap.size ∧ W6.heap.size = wA.heap.size) := ⟨by omega, by omega, by omega, zA⟩
        have HW6 : Hid (W6 = wA.setCell ⟨p6, 2, none⟩ (.slice goA b.length b.length)) := hW6
        obtain ⟨⟨_, b0, b1, b2, b3, b4⟩, bf0, bf1, bf2, bf3, bf4⟩ := id BA
        obtain ⟨⟨_, r0, r1, r2, r3, r4⟩, rf0, rf1, rf2, rf3, rf4⟩ := id RA
        have hqp : w.heap.size + 1 + 1 ≠ p6 := by omega
        have hqp' : p6 ≠ w.heap.size + 1 + 1 := hqp.symm
        clear hW6 zA hFA hbA BA RA B9 R9 G9 F9 HK9 hap nA hq hz4 hn8 hs9
        go_wp2
        refine bodyPost_ret (v := .tuple #[.agg #[.int .i64 kap, .bool cl, .slice goA b.length b.length, .slice go5 D.length gc5, .slice ro5 r.length rc5], .slice ko 2 kc]) (by simp [results, Try.results25, go_sem, r0, r1, r2, r3, r4]) rfl ?_
        rw [← HW6.out]
        obtain ⟨e1, e2, e3⟩ := HRI.out
        subst e1 e2 e3
        have hl2 := HLN.out
        obtain ⟨bl, hbl⟩ : ∃ bl, bl = b.drop 1 ++ [x3] := ⟨_, rfl⟩
        rw [← hbl] at hl2 ⊢
        have FW' := FW.out
        rw [← hbl] at FW'
        rw [hl2] at FW' ⊢
        exact ansY_gen (q := w.heap.size + 1 + 1) (k := [(t1, t2, g0, true), (x1, x2, 0, true)]) BW.out (by omega) FW' (.inl HQ.out.1) hB0.size (by rw [HQ.out.2.2.2]; exact Nat.le_refl _) FK.out (.inl (by have := HQ.out; omega)) (by have := HQ.out; omega) (by have := HQ.out; omega) _ _ _ _ _
end Go.Proofs.Ytdfmmidokfcjfaa.Old
