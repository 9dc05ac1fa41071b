
/- SendOn: the program's. No conditions but those written. -/
import Derived.Test.YtdfmmidokfcjfaaOHc
namespace Go.Proofs.Ytdfmmidokfcjfaa.Old
open Go.RowKit

/-- The block p holds the three values. -/
def Box3 (W : World) (p : Nat) (u0 u1 u2 : Value) : Prop := p < W.heap.size ∧ W.cell? ⟨p, 0, none⟩ = some u0 ∧ W.cell? ⟨p, 1, none⟩ = some u1 ∧ W.cell? ⟨p, 2, none⟩ = some u2
theorem Box3.new (w : World) (u0 u1 u2 : Value) (t : TypeId) : Box3 (w.alloc (.cells #[u0, u1, u2] t)) w.heap.size u0 u1 u2 := ⟨by simp, by simp, by simp, by simp⟩
theorem Box3.later {W W' : World} {p : Nat} {u0 u1 u2 : Value} (h : Box3 W p u0 u1 u2) (hb : Below W.heap.size W W') : Box3 W' p u0 u1 u2 :=
  ⟨Nat.lt_of_lt_of_le h.1 hb.size, (hb.cell (p := ⟨p, 0, none⟩) h.1).trans h.2.1, (hb.cell (p := ⟨p, 1, none⟩) h.1).trans h.2.2.1, (hb.cell (p := ⟨p, 2, none⟩) h.1).trans h.2.2.2⟩
theorem BoxF5.only {W W' : World} {p q : Nat} {u0 u1 u2 u3 u4 : Value} (h : BoxF5 W p u0 u1 u2 u3 u4) (hb : OnlyAt (some ⟨q, 0, none⟩) W W') (hp : p ≠ q) : BoxF5 W' p u0 u1 u2 u3 u4 := by
  have hs : SameAt p W W' := hb.block p fun g e => by cases e; exact hp
  exact ⟨h.1.only hb (fun g e => by cases e; exact hp), (hs.frozen _).trans h.2.1, (hs.frozen _).trans h.2.2.1, (hs.frozen _).trans h.2.2.2.1, (hs.frozen _).trans h.2.2.2.2.1, (hs.frozen _).trans h.2.2.2.2.2⟩
theorem Box3.only {W W' : World} {p q : Nat} {u0 u1 u2 : Value} (h : Box3 W p u0 u1 u2) (hb : OnlyAt (some ⟨q, 0, none⟩) W W') (hp : p ≠ q) : Box3 W' p u0 u1 u2 := by
  have hs : SameAt p W W' := hb.block p fun g e => by cases e; exact hp
  exact ⟨by rw [hb.size]; exact h.1, (hs.cell _).trans h.2.1, (hs.cell _).trans h.2.2.1, (hs.cell _).trans h.2.2.2⟩
theorem FreshCh.onlyB {lo hi p : Nat} {W W' : World} {bo : Option Addr} {bc : Nat} {b : List Int} {so : Option Addr} {sc : Nat} {s : List T3} {ro : Option Addr} {rc : Nat} {r : List T3} (h : FreshCh lo hi W bo bc b so sc s ro rc r) (hb : OnlyAt (some ⟨p, 0, none⟩) W W') (hp : hi ≤ p) : FreshCh lo hi W' bo bc b so sc s ro rc r :=
  ⟨h.1.keep fun k _ h2 _ => hb.block k fun g e => by cases e; omega, h.2.1.keep fun k _ h2 _ => hb.block k fun g e => by cases e; omega, h.2.2.1.keep fun k _ h2 _ => hb.block k fun g e => by cases e; omega, h.2.2.2⟩
theorem OnlyAt.below {p : Nat} {w w' : World} (h : OnlyAt (some ⟨p, 0, none⟩) w w') {n : Nat} (hn : n ≤ p) : Below n w w' := ⟨h.os, h.tape, h.output, by rw [h.size]; exact Nat.le_refl _, fun k hk => h.block k fun g e => by cases e; omega⟩
theorem ansT_q {w W : World} {q : Nat} {kap : Int} {cl : Bool} {bo : Option Addr} {bc : Nat} {b : List Int} {so : Option Addr} {sc : Nat} {s : List T3} {ro : Option Addr} {rc : Nat} {r : List T3} {ko : Option Addr} {kc : Nat} {k : List T4} {c : Int} (hB : Below w.heap.size w W) (hq : w.heap.size ≤ q) (hF : FreshCh (q + 1) W.heap.size W bo bc b so sc s ro rc r) (hK : FreshK (q + 1) W.heap.size W ko kc k) (u0 u1 u2 u3 u4 : Value) :
    AnsT w (kap, cl, b, s, r, k, c) (.returned (.tuple #[.agg #[.int .i64 kap, .bool cl, .slice bo b.length bc, .slice so s.length sc, .slice ro r.length rc], .slice ko k.length kc, .int .i64 c])) (((((W.setCell ⟨q, 0, none⟩ u0).setCell ⟨q, 1, none⟩ u1).setCell ⟨q, 2, none⟩ u2).setCell ⟨q, 3, none⟩ u3).setCell ⟨q, 4, none⟩ u4) := by
  refine ⟨⟨bo, bc, so, sc, ro, rc, ko, kc, rfl, ?_, ?_⟩, ?_⟩
  · exact (((((hF.setBelow (a := ⟨q, 0, none⟩) (by simp) _).setBelow (a := ⟨q, 1, none⟩) (by simp) _).setBelow (a := ⟨q, 2, none⟩) (by simp) _).setBelow (a := ⟨q, 3, none⟩) (by simp) _).setBelow (a := ⟨q, 4, none⟩) (by simp) _).wide (by omega) (by simp)
  · exact (((((hK.setBelow (a := ⟨q, 0, none⟩) (by simp) _).setBelow (a := ⟨q, 1, none⟩) (by simp) _).setBelow (a := ⟨q, 2, none⟩) (by simp) _).setBelow (a := ⟨q, 3, none⟩) (by simp) _).setBelow (a := ⟨q, 4, none⟩) (by simp) _).wide (by omega) (by simp)
  · exact (((((hB.setCell (p := ⟨q, 0, none⟩) hq _).setCell (p := ⟨q, 1, none⟩) hq _).setCell (p := ⟨q, 2, none⟩) hq _).setCell (p := ⟨q, 3, none⟩) hq _).setCell (p := ⟨q, 4, none⟩) hq _)

theorem ansT_alloc {w W : World} {R : Int × Bool × List Int × List T3 × List T3 × List T4 × Int} {e : Ending} (h : AnsT w R e W) (o : Obj) : AnsT w R e (W.alloc o) := by
  obtain ⟨⟨bo, bc, so, sc, ro, rc, ko, kc, he, hF, hK⟩, hB⟩ := h
  exact ⟨⟨bo, bc, so, sc, ro, rc, ko, kc, he, (hF.later (below1 _ _)).wide (Nat.le_refl _) (by simp), (hK.later (below1 _ _)).wide (Nat.le_refl _) (by simp)⟩, hB.alloc hB.size _⟩

theorem freshK_new (U : World) {lo : Nat} (h : lo ≤ U.heap.size) (z : T4) : FreshK lo (U.heap.size + 1) (U.alloc (.cells #[.int .i64 z.1, .int .i64 z.2.1, .int .i64 z.2.2.1, .bool z.2.2.2] 35)) (some ⟨U.heap.size, 0, none⟩) 1 [z] := by
  refine .inr ⟨U.heap.size, kcells [z], rfl, by omega, ⟨rfl, .inr ⟨U.heap.size, 1, (kcells [z]).toArray, rfl, h, ?_, Nat.le_refl _, by unfold maxLen; omega, rfl, rfl⟩⟩, kcells_at _⟩
  show (U.heap.push _)[U.heap.size]? = _
  simp [kcells]
theorem ansT_woke {w W : World} {q : Nat} {kap : Int} {cl : Bool} {bo : Option Addr} {bc : Nat} {b : List Int} {so : Option Addr} {sc : Nat} {s : List T3} {ro : Option Addr} {rc : Nat} {r : List T3} {c : Int} (hB : Below w.heap.size w W) (hq : w.heap.size ≤ q) (hF : FreshCh (q + 1) W.heap.size W bo bc b so sc s ro rc r) (z1 z2 z3 : Int) (z4 : Bool) (u0 u1 u2 u3 u4 : Value) :
    AnsT w (kap, cl, b, s, r, [(z1, z2, z3, z4)], c) (.returned (.tuple #[.agg #[.int .i64 kap, .bool cl, .slice bo b.length bc, .slice so s.length sc, .slice ro r.length rc], .slice (some ⟨W.heap.size, 0, none⟩) 1 1, .int .i64 c])) ((((((W.setCell ⟨q, 0, none⟩ u0).setCell ⟨q, 1, none⟩ u1).setCell ⟨q, 2, none⟩ u2).setCell ⟨q, 3, none⟩ u3).setCell ⟨q, 4, none⟩ u4).alloc (.cells #[.int .i64 z1, .int .i64 z2, .int .i64 z3, .bool z4] 35)) := by
  have hs : (((((W.setCell ⟨q, 0, none⟩ u0).setCell ⟨q, 1, none⟩ u1).setCell ⟨q, 2, none⟩ u2).setCell ⟨q, 3, none⟩ u3).setCell ⟨q, 4, none⟩ u4).heap.size = W.heap.size := by simp [World.setCell]
  have hK := freshK_new (((((W.setCell ⟨q, 0, none⟩ u0).setCell ⟨q, 1, none⟩ u1).setCell ⟨q, 2, none⟩ u2).setCell ⟨q, 3, none⟩ u3).setCell ⟨q, 4, none⟩ u4) (lo := w.heap.size) (by rw [hs]; exact hB.size) (z1, z2, z3, z4)
  refine ⟨⟨bo, bc, so, sc, ro, rc, some ⟨W.heap.size, 0, none⟩, 1, rfl, ?_, ?_⟩, ?_⟩
  · exact ((((((hF.setBelow (a := ⟨q, 0, none⟩) (by simp) _).setBelow (a := ⟨q, 1, none⟩) (by simp) _).setBelow (a := ⟨q, 2, none⟩) (by simp) _).setBelow (a := ⟨q, 3, none⟩) (by simp) _).setBelow (a := ⟨q, 4, none⟩) (by simp) _).later (below1 _ _)).wide (by omega) (by simp)
  · rw [hs] at hK
    exact hK.wide (Nat.le_refl _) (by simp)
  · exact ((((((hB.setCell (p := ⟨q, 0, none⟩) hq _).setCell (p := ⟨q, 1, none⟩) hq _).setCell (p := ⟨q, 2, none⟩) hq _).setCell (p := ⟨q, 3, none⟩) hq _).setCell (p := ⟨q, 4, none⟩) hq _)).alloc (by rw [hs]; exact hB.size) _

/-- SendOn. -/
def sendR (kap : Int) (cl : Bool) (b : List Int) (s r : List T3) (t : T3) : Int × Bool × List Int × List T3 × List T3 × List T4 × Int :=
  if (goodC kap cl b s r && wtB t) = true then
    if cl = true then (kap, cl, b, s, r, [], 3)
    else if r.length ≠ 0 then (kap, cl, b, s, r.drop 1, [((t3 r 0).1, (t3 r 0).2.1, t.2.2, true)], 0)
    else if (b.length : Int) < kap then (kap, cl, b ++ [t.2.2], s, r, [], 0)
    else (kap, cl, b, (moreW s t).1, r, [], (moreW s t).2)
  else (0, false, [], [], [], [], 2)
theorem moreW_len (s : List T3) (t : T3) (h : s.length ≤ 40) : (moreW s t).1.length ≤ 41 := by
  unfold moreW; split
  · dsimp only; omega
  · simp; omega
theorem sendR_len (kap : Int) (cl : Bool) (b : List Int) (s r : List T3) (t : T3) (hl : b.length ≤ 1048576) (hls : s.length ≤ 1048576) (hlr : r.length ≤ 1048576) : (sendR kap cl b s r t).2.2.1.length ≤ 1048576 ∧ (sendR kap cl b s r t).2.2.2.1.length ≤ 1048576 ∧ (sendR kap cl b s r t).2.2.2.2.1.length ≤ 1048576 ∧ (sendR kap cl b s r t).2.2.2.2.2.1.length ≤ 1048576 := by
  unfold sendR
  split
  · rename_i h
    simp only [Bool.and_eq_true] at h
    obtain ⟨_, h2, h3, h4, h5⟩ := goodC_len h.1
    have hm := moreW_len s t h4
    split
    · exact ⟨hl, hls, hlr, by simp⟩
    · split
      · exact ⟨hl, hls, by simp; omega, by simp⟩
      · split
        · exact ⟨by simp; omega, hls, hlr, by simp⟩
        · exact ⟨hl, by dsimp only; omega, hlr, by simp⟩
  · simp
theorem pad_put (b : List Int) (v : Int) (h : b.length < 10) : (((padR b).set b.length v).drop 0).take (b.length + 1) = b ++ [v] := by
  apply List.ext_getElem?
  intro j
  rw [List.drop_zero, List.getElem?_take]
  by_cases hj : j < b.length + 1
  · rw [if_pos hj, List.getElem?_set]
    by_cases he : b.length = j
    · subst he; rw [if_pos rfl, if_pos (by rw [padR_len (by omega)]; omega)]; simp
    · rw [if_neg he, padR, List.getElem?_append_left (by omega), List.getElem?_append_left (by omega)]
  · rw [if_neg hj, List.getElem?_eq_none (by simp; omega)]

set_option maxRecDepth 10000 in
set_option maxHeartbeats 16000000 in
theorem implSend_any (kap : Int) (cl : Bool) (bo : Option Addr) (bc : Nat) (b : List Int) (so : Option Addr) (sc : Nat) (s : List T3) (ro : Option Addr) (rc : Nat) (r : List T3) (t1 t2 tv : Int) (w : World) (hl : b.length ≤ 1048576) (hls : s.length ≤ 1048576) (hlr : r.length ≤ 1048576) (hz : ChanIn w.heap.size w bo b so s ro r) :
    Calls Try.prog 5 #[.agg #[.int .i64 kap, .bool cl, .slice bo b.length bc, .slice so s.length sc, .slice ro r.length rc], .agg #[.int .i64 t1, .int .i64 t2, .int .i64 tv]] w fun e w' => AnsT w (sendR kap cl b s r (t1, t2, tv)) e w' := by
  generalize hR : sendR kap cl b s r (t1, t2, tv) = R
  have HR : Hid (sendR kap cl b s r (t1, t2, tv) = R) := hR
  clear hR
  obtain ⟨W2, hW2⟩ : ∃ W2, W2 = ((w.alloc (.cells #[.int .i64 kap, .bool cl, .slice bo b.length bc, .slice so s.length sc, .slice ro r.length rc] 26)).alloc (.cells #[.int .i64 t1, .int .i64 t2, .int .i64 tv] 28)).alloc (.cells #[.int .i64 0, .bool false, .slice none 0 0, .slice none 0 0, .slice none 0 0] 26) := ⟨_, rfl⟩
  have hB2 : Below w.heap.size w W2 := by rw [hW2]; exact below3 _ _ _ _
  have A2 : BoxF5 W2 w.heap.size (.int .i64 kap) (.bool cl) (.slice bo b.length bc) (.slice so s.length sc) (.slice ro r.length rc) := by rw [hW2]; exact (BoxF5.new w _ _ _ _ _ _).later (below2 _ _ _)
  have R2 : BoxF5 W2 (w.heap.size + 1 + 1) (.int .i64 0) (.bool false) (.slice none 0 0) (.slice none 0 0) (.slice none 0 0) := by
    have h := BoxF5.new ((w.alloc (.cells #[.int .i64 kap, .bool cl, .slice bo b.length bc, .slice so s.length sc, .slice ro r.length rc] 26)).alloc (.cells #[.int .i64 t1, .int .i64 t2, .int .i64 tv] 28)) (.int .i64 0) (.bool false) (.slice none 0 0) (.slice none 0 0) (.slice none 0 0) 26
    rw [hW2]; simpa using h
  have T2 : Box3 W2 (w.heap.size + 1) (.int .i64 t1) (.int .i64 t2) (.int .i64 tv) := by
    have h := (Box3.new (w.alloc (.cells #[.int .i64 kap, .bool cl, .slice bo b.length bc, .slice so s.length sc, .slice ro r.length rc] 26)) (.int .i64 t1) (.int .i64 t2) (.int .i64 tv) 28).later (below1 _ (.cells #[.int .i64 0, .bool false, .slice none 0 0, .slice none 0 0, .slice none 0 0] 26))
    rw [hW2]; simpa using h
  have HW : Hid (W2 = ((w.alloc (.cells #[.int .i64 kap, .bool cl, .slice bo b.length bc, .slice so s.length sc, .slice ro r.length rc] 26)).alloc (.cells #[.int .i64 t1, .int .i64 t2, .int .i64 tv] 28)).alloc (.cells #[.int .i64 0, .bool false, .slice none 0 0, .slice none 0 0, .slice none 0 0] 26)) := hW2
  have HS : Hid (W2.heap.size = w.heap.size + 1 + 1 + 1) := by rw [hW2]; simp [Hid]
  clear hW2
  obtain ⟨⟨_, a0, a1, a2, a3, a4⟩, af0, af1, af2, af3, af4⟩ := id A2
  cases hg : goodC kap cl b s r
  · have HR2 : Hid (R = (0, false, [], [], [], [], 2)) := by rw [Hid, ← HR.out, sendR, hg]; rfl
    have HG : Hid (goodC kap cl b s r = false) := hg
    clear hg HR
    go_enter Try.func5, Try.ntmps5
    go_wp2_with fail
    rw [← HW.out]
    refine (implGood_is kap cl bo bc b so sc s ro rc r W2 false (by omega) (by omega) (by omega) (hz.2.1.later hB2) (hz.2.2.later hB2) HG.out).mono ?_
    rintro e w3 ⟨rfl, hb3⟩
    have hB3 := hB2.trans (hb3.mono hB2.size)
    obtain ⟨⟨_, r0, r1, r2, r3, r4⟩, rf0, rf1, rf2, rf3, rf4⟩ := id (R2.later hb3)
    clear hb3 A2 R2 T2 a0 a1 a2 a3 a4 af0 af1 af2 af3 af4 HW
    go_wp2
    refine bodyPost_ret (v := .tuple #[.agg #[.int .i64 0, .bool false, .slice none 0 0, .slice none 0 0, .slice none 0 0], .slice none 0 0, .int .i64 2]) (by simp [results, Try.results5, go_sem, r0, r1, r2, r3, r4]) rfl ?_
    rw [HR2.out]
    exact ansT_q (b := []) (s := []) (r := []) (k := []) hB3 (by omega) (freshCh_nil _ _ _) (freshK_nil _ _ _) _ _ _ _ _
  have HG : Hid (goodC kap cl b s r = true) := hg
  clear hg
  cases ht : wtB (t1, t2, tv)
  · have HR2 : Hid (R = (0, false, [], [], [], [], 2)) := by rw [Hid, ← HR.out, sendR, HG.out, ht]; rfl
    have HT : Hid (wtB (t1, t2, tv) = false) := ht
    clear ht HR
    go_enter Try.func5, Try.ntmps5
    go_wp2_with fail
    rw [← HW.out]
    refine (implGood_is kap cl bo bc b so sc s ro rc r W2 true (by omega) (by omega) (by omega) (hz.2.1.later hB2) (hz.2.2.later hB2) HG.out).mono ?_
    rintro e w3 ⟨rfl, hb3⟩
    have hB3 := hB2.trans (hb3.mono hB2.size)
    have R3 := R2.later hb3
    have T3x := T2.later hb3
    obtain ⟨_, t0, t1', t2'⟩ := id T3x
    clear hb3 A2 R2 T2 a0 a1 a2 a3 a4 af0 af1 af2 af3 af4 HW
    go_wp2_with fail
    refine (goodSender_is t1 t2 tv _ false HT.out).mono ?_
    rintro e w4 ⟨rfl, hb4⟩
    have hB4 := hB3.trans (hb4.mono hB3.size)
    obtain ⟨⟨_, r0, r1, r2, r3, r4⟩, rf0, rf1, rf2, rf3, rf4⟩ := id (R3.later hb4)
    clear hb4 R3 t0 t1' t2'
    go_wp2
    refine bodyPost_ret (v := .tuple #[.agg #[.int .i64 0, .bool false, .slice none 0 0, .slice none 0 0, .slice none 0 0], .slice none 0 0, .int .i64 2]) (by simp [results, Try.results5, go_sem, r0, r1, r2, r3, r4]) rfl ?_
    rw [HR2.out]
    exact ansT_q (b := []) (s := []) (r := []) (k := []) hB4 (by omega) (freshCh_nil _ _ _) (freshK_nil _ _ _) _ _ _ _ _
  have HT : Hid (wtB (t1, t2, tv) = true) := ht
  obtain ⟨hk0, hk10, hbk, hs40, hr40⟩ := goodC_len HG.out
  have HRG : Hid ((goodC kap cl b s r && wtB (t1, t2, tv)) = true) := by rw [Hid, HG.out, ht]; rfl
  clear ht
  go_enter Try.func5, Try.ntmps5
  go_wp2_with fail
  rw [← HW.out]
  refine (implGood_is kap cl bo bc b so sc s ro rc r W2 true (by omega) (by omega) (by omega) (hz.2.1.later hB2) (hz.2.2.later hB2) HG.out).mono ?_
  rintro e w3 ⟨rfl, hb3⟩
  have hB3 := hB2.trans (hb3.mono hB2.size)
  have A3 := A2.later hb3
  have R3 := R2.later hb3
  have T3x := T2.later hb3
  have HQ3 : Hid (w.heap.size + 1 + 1 + 1 ≤ w3.heap.size) := by have := hb3.size; rw [HS.out] at this; exact this
  obtain ⟨_, t0, t1', t2'⟩ := id T3x
  clear hb3 A2 R2 T2 a0 a1 a2 a3 a4 af0 af1 af2 af3 af4 HW HS
  go_wp2_with fail
  refine (goodSender_is t1 t2 tv _ true HT.out).mono ?_
  rintro e w4 ⟨rfl, hb4⟩
  have hB4 := hB3.trans (hb4.mono hB3.size)
  have A4 := A3.later hb4
  have R4 := R3.later hb4
  have T4 := T3x.later hb4
  have HQ4 : Hid (w.heap.size + 1 + 1 + 1 ≤ w4.heap.size) := Nat.le_trans HQ3.out hb4.size
  clear hb4 A3 R3 T3x t0 t1' t2' HQ3
  obtain ⟨⟨_, a0, a1, a2, a3, a4⟩, af0, af1, af2, af3, af4⟩ := id A4
  go_wp2_with fail
  refine (copyChan_any kap cl bo bc b so sc s ro rc r w4 hl hls hlr (hz.later hB4)).mono ?_
  rintro e w5 ⟨⟨bo5, bc5, so5, sc5, ro5, rc5, rfl, hF5⟩, hb5⟩
  have hB5 := hB4.trans (hb5.mono hB4.size)
  have A5 := A4.later hb5
  have R5 := R4.later hb5
  have T5 := T4.later hb5
  have HQ5 : Hid (w.heap.size + 1 + 1 + 1 ≤ w5.heap.size) := Nat.le_trans HQ4.out hb5.size
  have F5 : Hid (FreshCh w4.heap.size w5.heap.size w5 bo5 bc5 b so5 sc5 s ro5 rc5 r) := hF5
  clear hb5 hF5 A4 R4 T4 a0 a1 a2 a3 a4 af0 af1 af2 af3 af4
  obtain ⟨W6, hW6⟩ : ∃ W6, W6 = w5.alloc (.cells #[.int .i64 kap, .bool cl, .slice bo5 b.length bc5, .slice so5 s.length sc5, .slice ro5 r.length rc5] 26) := ⟨_, rfl⟩
  have hb6 : Below w5.heap.size w5 W6 := by rw [hW6]; exact below1 _ _
  have hB6 := hB5.trans (hb6.mono hB5.size)
  have A6 := A5.later hb6
  have R6 := R5.later hb6
  have T6 := T5.later hb6
  have X6 : BoxF5 W6 w5.heap.size (.int .i64 kap) (.bool cl) (.slice bo5 b.length bc5) (.slice so5 s.length sc5) (.slice ro5 r.length rc5) := by rw [hW6]; exact BoxF5.new _ _ _ _ _ _ _
  have F6 : Hid (FreshCh w4.heap.size w5.heap.size W6 bo5 bc5 b so5 sc5 s ro5 rc5 r) := F5.out.later hb6
  have HS6 : Hid (W6.heap.size = w5.heap.size + 1) := by rw [hW6]; simp [Hid]
  have HW6 : Hid (W6 = w5.alloc (.cells #[.int .i64 kap, .bool cl, .slice bo5 b.length bc5, .slice so5 s.length sc5, .slice ro5 r.length rc5] 26)) := hW6
  have hnr : w5.heap.size ≠ w.heap.size + 1 + 1 := by have := R5.1.1; omega
  have hnt : w5.heap.size ≠ w.heap.size + 1 := by have := T5.1; omega
  clear hW6 hb6
  obtain ⟨⟨_, a0, a1, a2, a3, a4⟩, af0, af1, af2, af3, af4⟩ := id A5
  obtain ⟨_, t0, t1', t2'⟩ := id T5
  cases cl
  rotate_left
  · -- closed
    have HR2 : Hid (R = (kap, true, b, s, r, [], 3)) := by rw [Hid, ← HR.out, sendR, HRG.out]; rfl
    have FF : Hid (FreshCh (w.heap.size + 1 + 1 + 1) w5.heap.size w5 bo5 bc5 b so5 sc5 s ro5 rc5 r) := F5.out.wide HQ4.out (Nat.le_refl _)
    obtain ⟨⟨_, r0, r1, r2, r3, r4⟩, rf0, rf1, rf2, rf3, rf4⟩ := id R5
    have hlt5 := R5.1.1
    clear HR A5 A6 R5 R6 T5 T6 X6 F5 F6
    have HB5 : Hid (Below w.heap.size w w5) := hB5
    clear hB6 HW6
    go_wp2
    refine bodyPost_ret (v := .tuple #[.agg #[.int .i64 kap, .bool true, .slice bo5 b.length bc5, .slice so5 s.length sc5, .slice ro5 r.length rc5], .slice none 0 0, .int .i64 3]) (by simp [results, Try.results5, go_sem, r0, r1, r2, r3, r4, hlt5]) rfl ?_
    rw [HR2.out]
    exact ansT_alloc (ansT_q (k := []) HB5.out (by omega) FF.out (freshK_nil _ _ _) _ _ _ _ _) _
  by_cases hr : r.length = 0
  · obtain ⟨zr, pr, qr⟩ := len0 hr
    by_cases hk : (b.length : Int) < kap
    · -- into the buffer
      have HR2 : Hid (R = (kap, false, b ++ [tv], s, r, [], 0)) := by rw [Hid, ← HR.out, sendR, HRG.out, if_pos rfl, if_neg (by simp), if_neg (by simp [hr]), if_pos hk]
      have hb10 : b.length < 10 := by omega
      clear HR hr
      go_wp2_with fail
      rw [← HW6.out]
      refine (ringOf_any bo bc b W6 (by omega) (hz.1.later hB6)).mono ?_
      rintro e w7 ⟨rfl, hb7⟩
      obtain ⟨g0, g1, g2, g3, g4, g5, g6, g7, g8, g9, hgg⟩ := ten (padR_len (zs := b) (by omega))
      have hval : (rcells (padR b) 0 b.length).toArray = #[.int .i64 g0, .int .i64 g1, .int .i64 g2, .int .i64 g3, .int .i64 g4, .int .i64 g5, .int .i64 g6, .int .i64 g7, .int .i64 g8, .int .i64 g9, .int .i64 0, .int .i64 (b.length : Int)] := by rw [hgg]; rfl
      rw [hval]
      have hB7 := hB6.trans (hb7.mono hB6.size)
      have R7 := R6.later hb7
      have X7 := X6.later hb7
      have T7 := T6.later hb7
      have q7 := hb7.size
      rw [HS6.out] at q7
      have F7 : Hid (FreshCh w4.heap.size w5.heap.size w7 bo5 bc5 b so5 sc5 s ro5 rc5 r) := F6.out.later hb7
      clear hb7 A5 A6 R5 R6 T5 T6 X6 F5 F6 a0 a1 a2 a3 a4 af0 af1 af2 af3 af4 t0 t1' t2' HW6 hval
      obtain ⟨W8, hW8⟩ : ∃ W8, W8 = w7.alloc (.cells #[.int .i64 g0, .int .i64 g1, .int .i64 g2, .int .i64 g3, .int .i64 g4, .int .i64 g5, .int .i64 g6, .int .i64 g7, .int .i64 g8, .int .i64 g9, .int .i64 0, .int .i64 (b.length : Int)] 52) := ⟨_, rfl⟩
      have hb8 : Below w7.heap.size w7 W8 := by rw [hW8]; exact below1 _ _
      have G8 : RingB W8 w7.heap.size (padR b) ((0 : Nat) : Int) (b.length : Int) := by rw [hW8, hgg]; exact ring_new w7 g0 g1 g2 g3 g4 g5 g6 g7 g8 g9 0 (b.length : Int)
      have hB8 := hB7.trans (hb8.mono hB7.size)
      have R8 := R7.later hb8
      have X8 := X7.later hb8
      have F8 : Hid (FreshCh w4.heap.size w5.heap.size W8 bo5 bc5 b so5 sc5 s ro5 rc5 r) := F7.out.later hb8
      have HS8 : Hid (W8.heap.size = w7.heap.size + 1) := by rw [hW8]; simp [Hid]
      have HW8 : Hid (W8 = w7.alloc (.cells #[.int .i64 g0, .int .i64 g1, .int .i64 g2, .int .i64 g3, .int .i64 g4, .int .i64 g5, .int .i64 g6, .int .i64 g7, .int .i64 g8, .int .i64 g9, .int .i64 0, .int .i64 (b.length : Int)] 52)) := hW8
      have hn1 : w.heap.size + 1 + 1 ≠ w7.heap.size := by have := R7.1.1; omega
      have hn2 : w5.heap.size ≠ w7.heap.size := by have := X7.1.1; omega
      obtain ⟨_, t0, t1', t2'⟩ := id T7
      clear hW8 hb8 R7 X7 T7 F7 hgg
      go_wp2_with fail
      rw [← HW8.out]
      refine (put_any w7.heap.size (padR b) 0 b.length b.length tv W8 G8 hb10 (by omega) (by omega) (by omega)).mono ?_
      rintro e w9 ⟨⟨u9, rfl⟩, G9, O9⟩
      have hB9 := hB8.trans (O9.below (n := w.heap.size) (by have := HQ5.out; omega))
      have R9 := R8.only O9 hn1
      have X9 := X8.only O9 hn2
      have F9 : Hid (FreshCh w4.heap.size w5.heap.size w9 bo5 bc5 b so5 sc5 s ro5 rc5 r) := F8.out.onlyB O9 (by omega)
      have HS9 : Hid (w9.heap.size = w7.heap.size + 1) := by rw [Hid, O9.size]; exact HS8.out
      have G9' : RingB w9 w7.heap.size ((padR b).set b.length tv) 0 ((b.length + 1 : Nat) : Int) := by simpa using G9
      clear O9 R8 X8 F8 G8 G9 t0 t1' t2' HW8
      go_wp2_with fail
      refine (list0_any w7.heap.size _ (b.length + 1) w9 G9' (by omega)).mono ?_
      rintro e w10 ⟨⟨go10, rfl, hF10⟩, hb10'⟩
      rw [pad_put b tv hb10] at hF10
      have hB10 := hB9.trans (hb10'.mono hB9.size)
      have R10 := R9.later hb10'
      have X10 := X9.later hb10'
      have HF11 : Hid (FreshCh (w.heap.size + 1 + 1 + 1) w10.heap.size (w10.setCell ⟨w5.heap.size, 2, none⟩ (.slice go10 (b.length + 1) (b.length + 1))) go10 (b.length + 1) (b ++ [tv]) so5 sc5 s ro5 rc5 r) := by
        have q4 := HQ4.out
        have q5 := HQ5.out
        have q9 := HS9.out
        have q10 := hb10'.size
        have h9 := F9.out.later hb10'
        exact ⟨FreshI.wide (hF10.setBelow (by simp; omega) _) (by omega) (Nat.le_refl _), FreshC.wide (lo := w4.heap.size) (hi := w5.heap.size) (h9.2.1.keep fun k _ h2 _ => Below.heap_setCell _ _ _ k (by simp; omega)) q4 (by omega), FreshC.wide (lo := w4.heap.size) (hi := w5.heap.size) (h9.2.2.1.keep fun k _ h2 _ => Below.heap_setCell _ _ _ k (by simp; omega)) q4 (by omega), h9.2.2.2⟩
      have HB11 : Hid (Below w.heap.size w (w10.setCell ⟨w5.heap.size, 2, none⟩ (.slice go10 (b.length + 1) (b.length + 1)))) := hB10.setCell (p := ⟨w5.heap.size, 2, none⟩) (by have := HQ5.out; simp; omega) _
      have HLN : Hid ((b ++ [tv]).length = b.length + 1) := by simp [Hid]
      obtain ⟨⟨_, r0, r1, r2, r3, r4⟩, rf0, rf1, rf2, rf3, rf4⟩ := id R10
      obtain ⟨⟨_, x0, x1, x2, x3, x4⟩, xf0, xf1, xf2, xf3, xf4⟩ := id X10
      clear hb10' hF10 R9 X9 F9 G9' R10 X10
      go_wp2
      refine bodyPost_ret (v := .tuple #[.agg #[.int .i64 kap, .bool false, .slice go10 (b.length + 1) (b.length + 1), .slice so5 s.length sc5, .slice ro5 r.length rc5], .slice none 0 0, .int .i64 0]) (by simp [results, Try.results5, go_sem, r0, r1, r2, r3, r4]) rfl ?_
      have ha := ansT_q (kap := kap) (cl := false) (k := []) (ko := none) (kc := 0) (c := 0) HB11.out (q := w.heap.size + 1 + 1) (by omega) (by simpa using HF11.out) (freshK_nil _ _ _) (.int .i64 kap) (.bool false) (.slice go10 (b.length + 1) (b.length + 1)) (.slice so5 s.length sc5) (.slice ro5 r.length rc5)
      rw [HLN.out] at ha
      rw [HR2.out]
      exact ha
    · have hk' : decide ((b.length : Int) < kap) = false := by simpa using hk
      have HR2 : Hid (R = (kap, false, b, (moreW s (t1, t2, tv)).1, r, [], (moreW s (t1, t2, tv)).2)) := by rw [Hid, ← HR.out, sendR, HRG.out, if_pos rfl, if_neg (by simp), if_neg (by simp [hr]), if_neg hk]
      obtain ⟨M, hM⟩ : ∃ M, moreW s (t1, t2, tv) = M := ⟨_, rfl⟩
      rw [hM] at HR2
      have HM : Hid (moreW s (t1, t2, tv) = M) := hM
      clear hM HR hr hk
      go_wp2_with fail
      rw [← HW6.out]
      refine (waitBehind_any so sc s t1 t2 tv W6 (by omega) (hz.2.1.later hB6) M HM.out).mono ?_
      rintro e w7 ⟨⟨go7, qc7, rfl, hF7⟩, hb7⟩
      have hB7 := hB6.trans (hb7.mono hB6.size)
      have R7 := R6.later hb7
      have X7 := X6.later hb7
      have q7 := hb7.size
      rw [HS6.out] at q7
      have F7 : Hid (FreshCh w4.heap.size w5.heap.size w7 bo5 bc5 b so5 sc5 s ro5 rc5 r ∧ FreshC W6.heap.size w7.heap.size w7 go7 qc7 M.1) := ⟨F6.out.later hb7, hF7⟩
      clear hb7 hF7 A5 A6 R5 R6 T5 T6 X6 F5 F6 a0 a1 a2 a3 a4 af0 af1 af2 af3 af4 t0 t1' t2' HW6
      obtain ⟨⟨_, r0, r1, r2, r3, r4⟩, rf0, rf1, rf2, rf3, rf4⟩ := id R7
      obtain ⟨⟨_, x0, x1, x2, x3, x4⟩, xf0, xf1, xf2, xf3, xf4⟩ := id X7
      have HF8 : Hid (FreshCh (w.heap.size + 1 + 1 + 1) w7.heap.size (w7.setCell ⟨w5.heap.size, 3, none⟩ (.slice go7 M.1.length qc7)) bo5 bc5 b go7 qc7 M.1 ro5 rc5 r) := by
        have q4 := HQ4.out
        have q5 := HQ5.out
        have q6 := HS6.out
        have hap : Apart go7 _ M.1 ro5 _ r := (apart_of F7.out.1.2.2.1 F7.out.2 (by omega)).symm
        exact ⟨FreshI.wide (lo := w4.heap.size) (hi := w5.heap.size) (F7.out.1.1.keep fun k _ h2 _ => Below.heap_setCell _ _ _ k (by simp; omega)) q4 (by omega), FreshC.wide (F7.out.2.setBelow (by simp; omega) _) (by omega) (Nat.le_refl _), FreshC.wide (lo := w4.heap.size) (hi := w5.heap.size) (F7.out.1.2.2.1.keep fun k _ h2 _ => Below.heap_setCell _ _ _ k (by simp; omega)) q4 (by omega), hap⟩
      have HB8 : Hid (Below w.heap.size w (w7.setCell ⟨w5.heap.size, 3, none⟩ (.slice go7 M.1.length qc7))) := hB7.setCell (p := ⟨w5.heap.size, 3, none⟩) (by have := HQ5.out; simp; omega) _
      clear R7 X7 F7
      go_wp2
      refine bodyPost_ret (v := .tuple #[.agg #[.int .i64 kap, .bool false, .slice bo5 b.length bc5, .slice go7 M.1.length qc7, .slice ro5 r.length rc5], .slice none 0 0, .int .i64 M.2]) (by simp [results, Try.results5, go_sem, r0, r1, r2, r3, r4]) rfl ?_
      rw [HR2.out]
      exact ansT_q (k := []) HB8.out (by omega) (by simpa using HF8.out) (freshK_nil _ _ _) _ _ _ _ _
  · -- somebody waits
    obtain ⟨zr, pr, qr⟩ := len1 hr
    obtain ⟨⟨y1, y2, y3⟩, hx⟩ : ∃ x, t3 r 0 = x := ⟨_, rfl⟩
    have HR2 : Hid (R = (kap, false, b, s, r.drop 1, [(y1, y2, tv, true)], 0)) := by rw [Hid, ← HR.out, sendR, HRG.out, if_pos rfl, if_neg (by simp), if_pos hr, hx]
    have HX : Hid (t3 r 0 = (y1, y2, y3)) := hx
    clear hx HR hr
    go_wp2_with fail
    rw [← HW6.out]
    refine (firstAndOthers_any ro rc r y1 y2 y3 W6 hlr zr HX.out (hz.2.2.later hB6)).mono ?_
    rintro e w7 ⟨⟨go7, qc7, rfl, hF7⟩, hb7⟩
    obtain ⟨D, hD⟩ : ∃ D, D = r.drop 1 := ⟨_, rfl⟩
    rw [← hD] at hF7 HR2 ⊢
    clear hD
    have hB7 := hB6.trans (hb7.mono hB6.size)
    have R7 := R6.later hb7
    have X7 := X6.later hb7
    have T7 := T6.later hb7
    have q7 := hb7.size
    rw [HS6.out] at q7
    have F7 : Hid (FreshCh w4.heap.size w5.heap.size w7 bo5 bc5 b so5 sc5 s ro5 rc5 r ∧ FreshC W6.heap.size w7.heap.size w7 go7 qc7 D) := ⟨F6.out.later hb7, hF7⟩
    clear hb7 hF7 A5 A6 R5 R6 T5 T6 X6 F5 F6 a0 a1 a2 a3 a4 af0 af1 af2 af3 af4 t0 t1' t2' HW6
    obtain ⟨V8, hV8⟩ : ∃ V8, V8 = (w7.setCell ⟨w5.heap.size, 4, none⟩ (.slice go7 D.length qc7)).alloc (.cells #[.int .i64 y1, .int .i64 y2, .int .i64 y3] 28) := ⟨_, rfl⟩
    have q4 := HQ4.out
    have q5 := HQ5.out
    have q6 := HS6.out
    have hn8 := below1 (w7.setCell ⟨w5.heap.size, 4, none⟩ (.slice go7 D.length qc7)) (.cells #[.int .i64 y1, .int .i64 y2, .int .i64 y3] 28)
    have R8 := (R7.other ⟨w5.heap.size, 4, none⟩ (by simpa using hnr) (.slice go7 D.length qc7)).later hn8
    have X8 := (X7.set4 (.slice go7 D.length qc7)).later hn8
    have T8 := (T7.only (OnlyAt.set w5.heap.size 4 w7 (.slice go7 D.length qc7)) (Ne.symm hnt)).later hn8
    have Y8 : Box3 V8 w7.heap.size (.int .i64 y1) (.int .i64 y2) (.int .i64 y3) := by
      have h := Box3.new (w7.setCell ⟨w5.heap.size, 4, none⟩ (.slice go7 D.length qc7)) (.int .i64 y1) (.int .i64 y2) (.int .i64 y3) 28
      rw [show (w7.setCell ⟨w5.heap.size, 4, none⟩ (.slice go7 D.length qc7)).heap.size = w7.heap.size from by simp [World.setCell]] at h
      rw [hV8]; exact h
    have hB8 : Below w.heap.size w V8 := by rw [hV8]; exact (hB7.setCell (p := ⟨w5.heap.size, 4, none⟩) (by simp; omega) _).alloc (by simp; omega) _
    have HF8 : Hid (FreshCh (w.heap.size + 1 + 1 + 1) w7.heap.size V8 bo5 bc5 b so5 sc5 s go7 qc7 D) := by
      have hap : Apart so5 _ s go7 _ D := apart_of F7.out.1.2.1 F7.out.2 (by omega)
      have h0 : FreshCh (w.heap.size + 1 + 1 + 1) w7.heap.size (w7.setCell ⟨w5.heap.size, 4, none⟩ (.slice go7 D.length qc7)) bo5 bc5 b so5 sc5 s go7 qc7 D := ⟨FreshI.wide (lo := w4.heap.size) (hi := w5.heap.size) (F7.out.1.1.keep fun k _ h2 _ => Below.heap_setCell _ _ _ k (by simp; omega)) q4 (by omega), FreshC.wide (lo := w4.heap.size) (hi := w5.heap.size) (F7.out.1.2.1.keep fun k _ h2 _ => Below.heap_setCell _ _ _ k (by simp; omega)) q4 (by omega), FreshC.wide (F7.out.2.setBelow (by simp; omega) _) (by omega) (Nat.le_refl _), hap⟩
      rw [hV8]; exact h0.later hn8
    rw [← hV8] at R8 X8 T8
    have HS8 : Hid (V8.heap.size = w7.heap.size + 1) := by rw [hV8]; simp [World.setCell, Hid]
    have HV8 : Hid (V8 = (w7.setCell ⟨w5.heap.size, 4, none⟩ (.slice go7 D.length qc7)).alloc (.cells #[.int .i64 y1, .int .i64 y2, .int .i64 y3] 28)) := hV8
    clear hV8 hn8
    obtain ⟨⟨_, x0, x1, x2, x3, x4⟩, xf0, xf1, xf2, xf3, xf4⟩ := id X7
    obtain ⟨_, t0, t1', t2'⟩ := id T7
    have hl57 : w5.heap.size < w7.heap.size := X7.1.1
    clear X7 R7 T7 F7
    go_wp2_with fail
    rw [← HV8.out]
    refine (wake_any y1 y2 y3 tv true V8).mono ?_
    rintro e w9 ⟨rfl, hb9⟩
    have hB9 := hB8.trans (hb9.mono hB8.size)
    have HF9 : Hid (FreshCh (w.heap.size + 1 + 1 + 1) w9.heap.size w9 bo5 bc5 b so5 sc5 s go7 qc7 D) := (HF8.out.later hb9).wide (Nat.le_refl _) (by have := hb9.size; have := HS8.out; omega)
    have X9 := X8.later hb9
    have R9 := R8.later hb9
    have HB9 : Hid (Below w.heap.size w w9) := hB9
    clear hb9 x0 x1 x2 x3 x4 xf0 xf1 xf2 xf3 xf4 t0 t1' t2' X8 R8 T8 Y8 HF8 HV8
    obtain ⟨⟨_, x0, x1, x2, x3, x4⟩, xf0, xf1, xf2, xf3, xf4⟩ := id X9
    obtain ⟨⟨_, r0, r1, r2, r3, r4⟩, rf0, rf1, rf2, rf3, rf4⟩ := id R9
    have hlt9 := R9.1.1
    clear X9 R9 hB9
    go_wp2
    refine bodyPost_ret (v := .tuple #[.agg #[.int .i64 kap, .bool false, .slice bo5 b.length bc5, .slice so5 s.length sc5, .slice go7 D.length qc7], .slice (some ⟨w9.heap.size, 0, none⟩) 1 1, .int .i64 0]) (by simp [results, Try.results5, go_sem, r0, r1, r2, r3, r4, hlt9]) rfl ?_
    rw [HR2.out]
    exact ansT_woke HB9.out (by omega) HF9.out y1 y2 tv true _ _ _ _ _
end Go.Proofs.Ytdfmmidokfcjfaa.Old
