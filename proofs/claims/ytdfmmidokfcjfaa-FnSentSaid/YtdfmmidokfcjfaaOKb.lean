
/- Receiving in plain words; answers where the rows lie elsewhere. No conditions but those written. -/
import Derived.Test.YtdfmmidokfcjfaaOKa
namespace Go.Proofs.Ytdfmmidokfcjfaa.Old
open Go.RowKit

theorem below4 (w : World) (o p q x : Obj) : Below w.heap.size w ((((w.alloc o).alloc p).alloc q).alloc x) := (below3 w o p q).alloc (by simp; omega) _
theorem below5 (w : World) (o p q x y : Obj) : Below w.heap.size w (((((w.alloc o).alloc p).alloc q).alloc x).alloc y) := (below4 w o p q x).alloc (by simp; omega) _
/-- The first of the numbers. -/
def z0 (b : List Int) : Int := b[0]?.getD 0
/-- Receiving from a good channel. -/
def recvI (kap : Int) (cl : Bool) (b : List Int) (s r : List T3) (t : T3) : Int × Bool × List Int × List T3 × List T3 × List T4 × Int :=
  if b.length ≠ 0 then
    if s.length = 0 then (kap, cl, b.drop 1, s, r, [(t.1, t.2.1, z0 b, true)], 0)
    else (kap, cl, b.drop 1 ++ [(t3 s 0).2.2], s.drop 1, r, [(t.1, t.2.1, z0 b, true), ((t3 s 0).1, (t3 s 0).2.1, 0, true)], 0)
  else if s.length ≠ 0 then (kap, cl, b, s.drop 1, r, [(t.1, t.2.1, (t3 s 0).2.2, true), ((t3 s 0).1, (t3 s 0).2.1, 0, true)], 0)
  else if cl = true then (kap, cl, b, s, r, [(t.1, t.2.1, 0, false)], 0)
  else (kap, cl, b, s, (moreW r t).1, [], (moreW r t).2)
/-- ReceiveFrom. -/
def recvR (kap : Int) (cl : Bool) (b : List Int) (s r : List T3) (t : T3) : Int × Bool × List Int × List T3 × List T3 × List T4 × Int :=
  if (goodC kap cl b s r && (wtB t && decide (t.2.2 = 0))) = true then recvI kap cl b s r t else (0, false, [], [], [], [], 2)
theorem recvR_good {kap : Int} {cl : Bool} {b : List Int} {s r : List T3} {t : T3} (h : (goodC kap cl b s r && (wtB t && decide (t.2.2 = 0))) = true) : recvR kap cl b s r t = recvI kap cl b s r t := by rw [recvR, if_pos h]
theorem recvR_bad {kap : Int} {cl : Bool} {b : List Int} {s r : List T3} {t : T3} (h : (goodC kap cl b s r && (wtB t && decide (t.2.2 = 0))) = false) : recvR kap cl b s r t = (0, false, [], [], [], [], 2) := by rw [recvR, if_neg (by rw [h]; simp)]
theorem recvR_len (kap : Int) (cl : Bool) (b : List Int) (s r : List T3) (t : T3) (hl : b.length ≤ 1048576) (hls : s.length ≤ 1048576) (hlr : r.length ≤ 1048576) : (recvR kap cl b s r t).2.2.1.length ≤ 1048576 ∧ (recvR kap cl b s r t).2.2.2.1.length ≤ 1048576 ∧ (recvR kap cl b s r t).2.2.2.2.1.length ≤ 1048576 ∧ (recvR kap cl b s r t).2.2.2.2.2.1.length ≤ 1048576 := by
  unfold recvR
  split
  · rename_i h
    simp only [Bool.and_eq_true] at h
    obtain ⟨_, h2, h3, h4, h5⟩ := goodC_len h.1
    have hm := moreW_len r t h5
    unfold recvI
    split
    · split
      · exact ⟨by simp; omega, hls, hlr, by simp⟩
      · exact ⟨by simp; omega, by simp; omega, hlr, by simp⟩
    · split
      · exact ⟨hl, by simp; omega, hlr, by simp⟩
      · split
        · exact ⟨hl, hls, hlr, by simp⟩
        · exact ⟨hl, hls, by dsimp only; omega, by simp⟩
  · simp
/-- The channel laid into the answer's box, the rows outside it. -/
theorem ansV_gen {lo lo1 hi1 lo2 hi2 q : Nat} {w W : World} {kap : Int} {cl : Bool} {bo : Option Addr} {bc : Nat} {b : List Int} {so : Option Addr} {sc : Nat} {s : List T3} {ro : Option Addr} {rc : Nat} {r : List T3} {ko : Option Addr} {kc : Nat} {k : List T4} {c : Int} (hB : Below lo w W) (hq : lo ≤ q) (hF : FreshCh lo1 hi1 W bo bc b so sc s ro rc r) (h1 : q < lo1 ∨ hi1 ≤ q) (l1 : lo ≤ lo1) (s1 : hi1 ≤ W.heap.size) (hK : FreshK lo2 hi2 W ko kc k) (h2 : q < lo2 ∨ hi2 ≤ q) (l2 : lo ≤ lo2) (s2 : hi2 ≤ W.heap.size) (hw : Wf3 bo bc so sc ro rc) (u0 u1 u2 u3 u4 : Value) :
    AnsV lo w (kap, cl, b, s, r, k, c) (.returned (.tuple #[.agg #[.int .i64 kap, .bool cl, .slice bo b.length bc, .slice so s.length sc, .slice ro r.length rc], .slice ko k.length kc, .int .i64 c])) (sets5 W q u0 u1 u2 u3 u4) :=
  ⟨⟨bo, bc, so, sc, ro, rc, ko, kc, rfl, (hF.sets h1 u0 u1 u2 u3 u4).wide l1 (by rw [sets5_size]; exact s1), (hK.sets h2 u0 u1 u2 u3 u4).wide l2 (by rw [sets5_size]; exact s2), hw⟩, Below.sets hB hq _ _ _ _ _⟩
theorem freshK_news (U : World) {lo : Nat} (h : lo ≤ U.heap.size) (ks : List T4) (hne : ks.length ≤ 1048576) (arr : Array Value) (ha : arr = (kcells ks).toArray) : FreshK lo (U.heap.size + 1) (U.alloc (.cells arr 35)) (some ⟨U.heap.size, 0, none⟩) ks.length ks := by
  refine .inr ⟨U.heap.size, kcells ks, rfl, by omega, ⟨kcells_len ks, .inr ⟨U.heap.size, ks.length, (kcells ks).toArray, rfl, h, ?_, Nat.le_refl _, by unfold maxLen; omega, by simp [kcells_len], by rw [← kcells_len ks]; simp⟩⟩, kcells_at _⟩
  subst ha
  show (U.heap.push _)[U.heap.size]? = _
  simp
/-- The channel laid into the answer's box, then the row of those that are woken. -/
theorem ansV_genK {lo lo1 hi1 q : Nat} {w W : World} {kap : Int} {cl : Bool} {bo : Option Addr} {bc : Nat} {b : List Int} {so : Option Addr} {sc : Nat} {s : List T3} {ro : Option Addr} {rc : Nat} {r : List T3} {k : List T4} {c : Int} (hB : Below lo w W) (hlo : lo ≤ W.heap.size) (hq : lo ≤ q) (hF : FreshCh lo1 hi1 W bo bc b so sc s ro rc r) (h1 : q < lo1 ∨ hi1 ≤ q) (l1 : lo ≤ lo1) (s1 : hi1 ≤ W.heap.size) (hk : k.length ≤ 1048576) (hw : Wf3 bo bc so sc ro rc) (u0 u1 u2 u3 u4 : Value) (arr : Array Value) (ha : arr = (kcells k).toArray) :
    AnsV lo w (kap, cl, b, s, r, k, c) (.returned (.tuple #[.agg #[.int .i64 kap, .bool cl, .slice bo b.length bc, .slice so s.length sc, .slice ro r.length rc], .slice (some ⟨W.heap.size, 0, none⟩) k.length k.length, .int .i64 c])) ((sets5 W q u0 u1 u2 u3 u4).alloc (.cells arr 35)) := by
  have hs := sets5_size W q u0 u1 u2 u3 u4
  have hK := freshK_news (sets5 W q u0 u1 u2 u3 u4) (lo := lo) (by rw [hs]; exact hlo) k hk arr ha
  rw [hs] at hK
  refine ⟨⟨bo, bc, so, sc, ro, rc, some ⟨W.heap.size, 0, none⟩, k.length, rfl, ?_, ?_, hw⟩, ?_⟩
  · exact ((hF.sets h1 u0 u1 u2 u3 u4).later (below1 _ _)).wide l1 (by rw [World.size_alloc, hs]; omega)
  · exact hK.wide (Nat.le_refl _) (by rw [World.size_alloc, hs]; exact Nat.le_refl _)
  · exact (Below.sets hB hq _ _ _ _ _).alloc (by rw [hs]; exact hlo) _
/-- The block p holds the four values. -/
def Box4 (W : World) (p : Nat) (u0 u1 u2 u3 : Value) : Prop := p < W.heap.size ∧ W.cell? ⟨p, 0, none⟩ = some u0 ∧ W.cell? ⟨p, 1, none⟩ = some u1 ∧ W.cell? ⟨p, 2, none⟩ = some u2 ∧ W.cell? ⟨p, 3, none⟩ = some u3
theorem Box4.new (w : World) (u0 u1 u2 u3 : Value) (t : TypeId) : Box4 (w.alloc (.cells #[u0, u1, u2, u3] t)) w.heap.size u0 u1 u2 u3 := ⟨by simp, by simp, by simp, by simp, by simp⟩
theorem Box4.later {W W' : World} {p : Nat} {u0 u1 u2 u3 : Value} (h : Box4 W p u0 u1 u2 u3) (hb : Below W.heap.size W W') : Box4 W' p u0 u1 u2 u3 :=
  ⟨Nat.lt_of_lt_of_le h.1 hb.size, (hb.cell (p := ⟨p, 0, none⟩) h.1).trans h.2.1, (hb.cell (p := ⟨p, 1, none⟩) h.1).trans h.2.2.1, (hb.cell (p := ⟨p, 2, none⟩) h.1).trans h.2.2.2.1, (hb.cell (p := ⟨p, 3, none⟩) h.1).trans h.2.2.2.2⟩
theorem Box4.drew {W : World} {p : Nat} {u0 u1 u2 u3 : Value} (h : Box4 W p u0 u1 u2 u3) : Box4 W.drew p u0 u1 u2 u3 := h
end Go.Proofs.Ytdfmmidokfcjfaa.Old
