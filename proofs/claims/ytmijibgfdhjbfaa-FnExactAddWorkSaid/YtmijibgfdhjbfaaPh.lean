
/- AddWork: both sides. No conditions but those written. -/
import Derived.Test.YtmijibgfdhjbfaaPe
import Derived.BigQuiet
import Derived.BigRegion
import Derived.RegionTactic
import Derived.ChangeAlike
import Derived.Deep.RegionHeld3
namespace Go.Proofs.Ytmijibgfdhjbfaa
open Go.RowKit

/-- What AddWork answers. -/
def addWR (s1 s2 : Int) (l : List Wo) (k : Int) : Int × Int × List Wo × Int :=
  if poolB s1 s2 l = true then
    if s2 ≠ 0 then (s1, s2, l, 4) else if hasB (idsOf l) k = true then (s1, s2, l, 5) else if l.length = 40 then (s1, s2, l, 2) else (s1, s2, l ++ [(k, 1, 0)], 0)
  else (0, 0, [], 1)
theorem addWR_bad {s1 s2 : Int} {l : List Wo} {k : Int} (h : poolB s1 s2 l = false) : addWR s1 s2 l k = (0, 0, [], 1) := by rw [addWR, if_neg]; rw [h]; simp
theorem addWR_stop {s1 s2 : Int} {l : List Wo} {k : Int} (h : poolB s1 s2 l = true) (h1 : s2 ≠ 0) : addWR s1 s2 l k = (s1, s2, l, 4) := by rw [addWR, if_pos h, if_pos h1]
theorem addWR_twice {s1 s2 : Int} {l : List Wo} {k : Int} (h : poolB s1 s2 l = true) (h1 : s2 = 0) (h2 : hasB (idsOf l) k = true) : addWR s1 s2 l k = (s1, s2, l, 5) := by rw [addWR, if_pos h, if_neg (by simpa using h1), if_pos h2]
theorem addWR_full {s1 s2 : Int} {l : List Wo} {k : Int} (h : poolB s1 s2 l = true) (h1 : s2 = 0) (h2 : hasB (idsOf l) k = false) (h3 : l.length = 40) : addWR s1 s2 l k = (s1, s2, l, 2) := by rw [addWR, if_pos h, if_neg (by simpa using h1), if_neg (by rw [h2]; simp), if_pos h3]
theorem addWR_ok {s1 s2 : Int} {l : List Wo} {k : Int} (h : poolB s1 s2 l = true) (h1 : s2 = 0) (h2 : hasB (idsOf l) k = false) (h3 : l.length ≠ 40) : addWR s1 s2 l k = (s1, s2, l ++ [(k, 1, 0)], 0) := by rw [addWR, if_pos h, if_neg (by simpa using h1), if_neg (by rw [h2]; simp), if_neg h3]
theorem addWR_len {s1 s2 : Int} {l : List Wo} {k : Int} (hl : l.length ≤ 1048576) : (addWR s1 s2 l k).2.2.1.length ≤ 1048576 := by
  unfold addWR
  split
  · rename_i h
    have := (poolB_good h).2.1
    repeat' split
    all_goals simp <;> omega
  · simp
/-- A pool and a code, in memory of their own. -/
def AnsP (w : World) (R : Int × Int × List Wo × Int) (e : Ending) (w' : World) : Prop :=
  (∃ o c, e = .returned (.tuple #[.agg #[.int .i64 R.1, .int .i64 R.2.1, .slice o R.2.2.1.length c], .int .i64 R.2.2.2]) ∧ kW.Fresh w.heap.size w'.heap.size w' o c R.2.2.1) ∧ Below w.heap.size w w'
theorem Kind.Fresh.setOff {α : Type} {K : Kind α} {lo hi : Nat} {W : World} {qo : Option Addr} {qc : Nat} {q : List α} (h : K.Fresh lo hi W qo qc q) {a : Addr} (ha : a.block < lo ∨ hi ≤ a.block) (u : Value) : K.Fresh lo hi (W.setCell a u) qo qc q := h.keep fun k h1 h2 _ => Below.heap_setCell W a u k (by omega)
theorem Kind.Fresh.notNew {α : Type} {K : Kind α} {lo hi : Nat} {W : World} {qo : Option Addr} {qc : Nat} {q : List α} (h : K.Fresh lo hi W qo qc q) {g : Nat} (e : eff qo q.length = some ⟨g, 0, none⟩) : W.heap.size ≠ g := by
  rcases h with rfl | ⟨g2, e2, hg, ho⟩
  · simp [eff] at e
  · unfold eff at e
    split at e
    · cases e
    · rw [e2] at e; simp at e; subst e
      have := (owns_lt ho).2; omega
set_option maxRecDepth 10000 in
set_option maxHeartbeats 4000000 in
theorem implAddW_any (s1 s2 : Int) (lo : Option Addr) (lc : Nat) (l : List Wo) (iv : Int) (w : World) (hl : l.length ≤ 1048576) (hz : kW.In w.heap.size w lo l) :
    Calls Try.prog 13 #[.agg #[.int .i64 s1, .int .i64 s2, .slice lo l.length lc], .int .i64 iv] w fun e w' => AnsP w (addWR s1 s2 l iv) e w' := by
  obtain ⟨w0, hw0⟩ : ∃ w0, w0 = ((w.alloc (.cells #[.int .i64 s1, .int .i64 s2, .slice lo l.length lc] 29)).alloc (.cells #[.int .i64 0, .int .i64 0, .slice none 0 0] 29)) := ⟨_, rfl⟩
  have hB0 : Below w.heap.size w w0 := by rw [hw0]; exact Below.allocS (Below.allocS (Below.refl _ _) _) _
  have XA0 : Hid (Bx w0 (w.heap.size) [.int .i64 s1, .int .i64 s2, .slice lo l.length lc]) := by rw [hw0]; exact Bx.alloc (Bx.new [.int .i64 s1, .int .i64 s2, .slice lo l.length lc] _ rfl) _
  have XR0 : Hid (Bx w0 (w.heap.size + 1) [.int .i64 0, .int .i64 0, .slice none 0 0]) := by rw [hw0]; exact Bx.new [.int .i64 0, .int .i64 0, .slice none 0 0] _ (by simp)
  have H0 : Hid (w0 = ((w.alloc (.cells #[.int .i64 s1, .int .i64 s2, .slice lo l.length lc] 29)).alloc (.cells #[.int .i64 0, .int .i64 0, .slice none 0 0] 29))) := hw0
  have hs0 : w.heap.size + 1 + 1 ≤ w0.heap.size := by rw [hw0]; simp
  clear hw0
  cases hg : poolB s1 s2 l
  · have HG := hid hg
    have HR := hid (addWR_bad (k := iv) hg)
    clear hg
    go_enter Try.func13, Try.ntmps13
    go_wp2_with fail
    rw [← H0.out]
    refine (implGoodPool_is s1 s2 lo lc l w0 false hl (hz.later hB0) HG.out).mono ?_
    rintro e w1 ⟨rfl, hb1⟩
    have hB1 := hB0.trans (hb1.mono hB0.size)
    have hs1 : w.heap.size + 1 + 1 ≤ w1.heap.size := Nat.le_trans hs0 hb1.size
    have hz1 : w0.heap.size ≤ w1.heap.size := hb1.size
    have XA1 := hid (XA0.out.later hb1)
    have XR1 := hid (XR0.out.later hb1)
    clear XA0 XR0
    clear hb1
    have a0 := XA1.out.c 0 rfl
    have af0 := XA1.out.f 0 rfl
    have a1 := XA1.out.c 1 rfl
    have af1 := XA1.out.f 1 rfl
    have a2 := XA1.out.c 2 rfl
    have af2 := XA1.out.f 2 rfl
    have az := XA1.out.size
    have r0 := XR1.out.c 0 rfl
    have rf0 := XR1.out.f 0 rfl
    have r1 := XR1.out.c 1 rfl
    have rf1 := XR1.out.f 1 rfl
    have r2 := XR1.out.c 2 rfl
    have rf2 := XR1.out.f 2 rfl
    have rz := XR1.out.size
    go_wp2
    refine bodyPost_ret (v := .tuple #[.agg #[.int .i64 0, .int .i64 0, .slice none 0 0], .int .i64 1]) (by simp [results, Try.results13, go_sem, r0, r1, r2]) rfl ?_
    rw [HR.out]
    exact ⟨⟨none, 0, rfl, .inl rfl⟩, (((hB1.setCell (p := ⟨w.heap.size + 1, 0, none⟩) (by dsimp only; omega) _).setCell (p := ⟨w.heap.size + 1, 1, none⟩) (by dsimp only; omega) _).setCell (p := ⟨w.heap.size + 1, 2, none⟩) (by dsimp only; omega) _)⟩
  have HG := hid hg
  by_cases h0 : s2 = 0
  case neg =>
    have HR := hid (addWR_stop (k := iv) hg h0)
    have h0' : (s2 != 0) = true := by simpa using h0
    clear hg h0
    go_enter Try.func13, Try.ntmps13
    go_wp2_with fail
    rw [← H0.out]
    refine (implGoodPool_is s1 s2 lo lc l w0 true hl (hz.later hB0) HG.out).mono ?_
    rintro e w1 ⟨rfl, hb1⟩
    have hB1 := hB0.trans (hb1.mono hB0.size)
    have hs1 : w.heap.size + 1 + 1 ≤ w1.heap.size := Nat.le_trans hs0 hb1.size
    have hz1 : w0.heap.size ≤ w1.heap.size := hb1.size
    have XA1 := hid (XA0.out.later hb1)
    have XR1 := hid (XR0.out.later hb1)
    clear XA0 XR0
    clear hb1
    have a0 := XA1.out.c 0 rfl
    have af0 := XA1.out.f 0 rfl
    have a1 := XA1.out.c 1 rfl
    have af1 := XA1.out.f 1 rfl
    have a2 := XA1.out.c 2 rfl
    have af2 := XA1.out.f 2 rfl
    have az := XA1.out.size
    have r0 := XR1.out.c 0 rfl
    have rf0 := XR1.out.f 0 rfl
    have r1 := XR1.out.c 1 rfl
    have rf1 := XR1.out.f 1 rfl
    have r2 := XR1.out.c 2 rfl
    have rf2 := XR1.out.f 2 rfl
    have rz := XR1.out.size
    go_wp2_with fail
    clear a0 af0 a1 af1 a2 af2 az r0 rf0 r1 rf1 r2 rf2 rz
    refine (copyPool_any s1 s2 lo lc l w1 hl (hz.later hB1)).mono ?_
    rintro e w2 ⟨⟨go1, rfl, hF⟩, hb2⟩
    have hB2 := hB1.trans (hb2.mono hB1.size)
    have hs2 : w.heap.size + 1 + 1 ≤ w2.heap.size := Nat.le_trans hs1 hb2.size
    have hz2 : w1.heap.size ≤ w2.heap.size := hb2.size
    have XA2 := hid (XA1.out.later hb2)
    have XR2 := hid (XR1.out.later hb2)
    clear XA1 XR1
    have F2 := hid (hF)
    clear hb2 hF
    have a0 := XA2.out.c 0 rfl
    have af0 := XA2.out.f 0 rfl
    have a1 := XA2.out.c 1 rfl
    have af1 := XA2.out.f 1 rfl
    have a2 := XA2.out.c 2 rfl
    have af2 := XA2.out.f 2 rfl
    have az := XA2.out.size
    have r0 := XR2.out.c 0 rfl
    have rf0 := XR2.out.f 0 rfl
    have r1 := XR2.out.c 1 rfl
    have rf1 := XR2.out.f 1 rfl
    have r2 := XR2.out.c 2 rfl
    have rf2 := XR2.out.f 2 rfl
    have rz := XR2.out.size
    go_wp2
    refine bodyPost_ret (v := .tuple #[.agg #[.int .i64 s1, .int .i64 s2, .slice go1 l.length l.length], .int .i64 4]) (by simp [results, Try.results13, go_sem, r0, r1, r2, rz]) rfl ?_
    rw [HR.out]
    exact ⟨⟨go1, l.length, rfl, ((((F2.out.setOff (a := ⟨w.heap.size + 1, 0, none⟩) (by dsimp only; omega) _).setOff (a := ⟨w.heap.size + 1, 1, none⟩) (by dsimp only; omega) _).setOff (a := ⟨w.heap.size + 1, 2, none⟩) (by dsimp only; omega) _).later (below1 _ _)).wide (by omega) (by simp <;> omega)⟩, (Below.allocS (((hB2.setCell (p := ⟨w.heap.size + 1, 0, none⟩) (by dsimp only; omega) _).setCell (p := ⟨w.heap.size + 1, 1, none⟩) (by dsimp only; omega) _).setCell (p := ⟨w.heap.size + 1, 2, none⟩) (by dsimp only; omega) _) _)⟩
  have h0' : (s2 != 0) = false := by simpa using h0
  have h40 := (poolB_good hg).2.1
  have hq : (idsOf l).length ≤ 1048576 := by rw [idsOf_len]; exact hl
  cases hm : hasB (idsOf l) iv
  case true =>
    have HM := hid hm
    have HR := hid (addWR_twice hg h0 hm)
    clear hg h0 hm
    go_enter Try.func13, Try.ntmps13
    go_wp2_with fail
    rw [← H0.out]
    refine (implGoodPool_is s1 s2 lo lc l w0 true hl (hz.later hB0) HG.out).mono ?_
    rintro e w1 ⟨rfl, hb1⟩
    have hB1 := hB0.trans (hb1.mono hB0.size)
    have hs1 : w.heap.size + 1 + 1 ≤ w1.heap.size := Nat.le_trans hs0 hb1.size
    have hz1 : w0.heap.size ≤ w1.heap.size := hb1.size
    have XA1 := hid (XA0.out.later hb1)
    have XR1 := hid (XR0.out.later hb1)
    clear XA0 XR0
    clear hb1
    have a0 := XA1.out.c 0 rfl
    have af0 := XA1.out.f 0 rfl
    have a1 := XA1.out.c 1 rfl
    have af1 := XA1.out.f 1 rfl
    have a2 := XA1.out.c 2 rfl
    have af2 := XA1.out.f 2 rfl
    have az := XA1.out.size
    have r0 := XR1.out.c 0 rfl
    have rf0 := XR1.out.f 0 rfl
    have r1 := XR1.out.c 1 rfl
    have rf1 := XR1.out.f 1 rfl
    have r2 := XR1.out.c 2 rfl
    have rf2 := XR1.out.f 2 rfl
    have rz := XR1.out.size
    go_wp2_with fail
    clear a0 af0 a1 af1 a2 af2 az r0 rf0 r1 rf1 r2 rf2 rz
    refine (copyPool_any s1 s2 lo lc l w1 hl (hz.later hB1)).mono ?_
    rintro e w2 ⟨⟨go1, rfl, hF⟩, hb2⟩
    have hB2 := hB1.trans (hb2.mono hB1.size)
    have hs2 : w.heap.size + 1 + 1 ≤ w2.heap.size := Nat.le_trans hs1 hb2.size
    have hz2 : w1.heap.size ≤ w2.heap.size := hb2.size
    have XA2 := hid (XA1.out.later hb2)
    have XR2 := hid (XR1.out.later hb2)
    clear XA1 XR1
    have F2 := hid (hF)
    clear hb2 hF
    have a0 := XA2.out.c 0 rfl
    have af0 := XA2.out.f 0 rfl
    have a1 := XA2.out.c 1 rfl
    have af1 := XA2.out.f 1 rfl
    have a2 := XA2.out.c 2 rfl
    have af2 := XA2.out.f 2 rfl
    have az := XA2.out.size
    have r0 := XR2.out.c 0 rfl
    have rf0 := XR2.out.f 0 rfl
    have r1 := XR2.out.c 1 rfl
    have rf1 := XR2.out.f 1 rfl
    have r2 := XR2.out.c 2 rfl
    have rf2 := XR2.out.f 2 rfl
    have rz := XR2.out.size
    obtain ⟨w3, hV⟩ : ∃ V, V = w2.alloc (.cells #[.int .i64 s1, .int .i64 s2, .slice go1 l.length l.length] 29) := ⟨_, rfl⟩
    have hz3 : w2.heap.size ≤ w3.heap.size := by rw [hV]; simp
    have hs3 : w.heap.size + 1 + 1 ≤ w3.heap.size := Nat.le_trans hs2 hz3
    have hB3 : Below w.heap.size w w3 := by rw [hV]; exact Below.allocS hB2 _
    have XA3 := hid (XA2.out.alloc (.cells #[.int .i64 s1, .int .i64 s2, .slice go1 l.length l.length] 29))
    rw [← hV] at XA3
    have XR3 := hid (XR2.out.alloc (.cells #[.int .i64 s1, .int .i64 s2, .slice go1 l.length l.length] 29))
    rw [← hV] at XR3
    have F3 := hid (F2.out.later (below1 w2 (.cells #[.int .i64 s1, .int .i64 s2, .slice go1 l.length l.length] 29)))
    rw [← hV] at F3
    have H3 : Hid (w3 = w2.alloc (.cells #[.int .i64 s1, .int .i64 s2, .slice go1 l.length l.length] 29)) := hV
    clear hV XA2 XR2 F2
    have XN3 : Hid (Bx w3 w2.heap.size [.int .i64 s1, .int .i64 s2, .slice go1 l.length l.length]) := by rw [H3.out]; exact Bx.new [.int .i64 s1, .int .i64 s2, .slice go1 l.length l.length] _ rfl
    have hy3 : w2.heap.size < w3.heap.size := XN3.out.size
    go_wp2_with fail
    clear a0 af0 a1 af1 a2 af2 az r0 rf0 r1 rf1 r2 rf2 rz
    rw [← H3.out]
    refine (workIds_any lo lc l w3 hl (hz.later hB3)).mono ?_
    rintro e w4 ⟨⟨qo, qc, rfl, hQ⟩, hb4⟩
    have hB4 := hB3.trans (hb4.mono hB3.size)
    have hs4 : w.heap.size + 1 + 1 ≤ w4.heap.size := Nat.le_trans hs3 hb4.size
    have hz4 : w3.heap.size ≤ w4.heap.size := hb4.size
    have XA4 := hid (XA3.out.later hb4)
    have XR4 := hid (XR3.out.later hb4)
    have XN4 := hid (XN3.out.later hb4)
    have F4 := hid (F3.out.later hb4)
    clear XA3 XR3 XN3 F3
    have Q4 := hid (hQ)
    clear hb4 hQ
    have a0 := XA4.out.c 0 rfl
    have af0 := XA4.out.f 0 rfl
    have a1 := XA4.out.c 1 rfl
    have af1 := XA4.out.f 1 rfl
    have a2 := XA4.out.c 2 rfl
    have af2 := XA4.out.f 2 rfl
    have az := XA4.out.size
    have r0 := XR4.out.c 0 rfl
    have rf0 := XR4.out.f 0 rfl
    have r1 := XR4.out.c 1 rfl
    have rf1 := XR4.out.f 1 rfl
    have r2 := XR4.out.c 2 rfl
    have rf2 := XR4.out.f 2 rfl
    have rz := XR4.out.size
    have n0 := XN4.out.c 0 rfl
    have nf0 := XN4.out.f 0 rfl
    have n1 := XN4.out.c 1 rfl
    have nf1 := XN4.out.f 1 rfl
    have n2 := XN4.out.c 2 rfl
    have nf2 := XN4.out.f 2 rfl
    have nz := XN4.out.size
    go_wp2_with fail
    clear a0 af0 a1 af1 a2 af2 az r0 rf0 r1 rf1 r2 rf2 rz n0 nf0 n1 nf1 n2 nf2 nz
    refine (contains_is _ qo qc (idsOf l) iv _ true hq Q4.out.in HM.out).mono ?_
    rintro e w5 ⟨rfl, hw5⟩
    rw [hw5]
    clear hw5 w5
    have a0 := XA4.out.c 0 rfl
    have af0 := XA4.out.f 0 rfl
    have a1 := XA4.out.c 1 rfl
    have af1 := XA4.out.f 1 rfl
    have a2 := XA4.out.c 2 rfl
    have af2 := XA4.out.f 2 rfl
    have az := XA4.out.size
    have r0 := XR4.out.c 0 rfl
    have rf0 := XR4.out.f 0 rfl
    have r1 := XR4.out.c 1 rfl
    have rf1 := XR4.out.f 1 rfl
    have r2 := XR4.out.c 2 rfl
    have rf2 := XR4.out.f 2 rfl
    have rz := XR4.out.size
    have n0 := XN4.out.c 0 rfl
    have nf0 := XN4.out.f 0 rfl
    have n1 := XN4.out.c 1 rfl
    have nf1 := XN4.out.f 1 rfl
    have n2 := XN4.out.c 2 rfl
    have nf2 := XN4.out.f 2 rfl
    have nz := XN4.out.size
    go_wp2
    refine bodyPost_ret (v := .tuple #[.agg #[.int .i64 s1, .int .i64 s2, .slice go1 l.length l.length], .int .i64 5]) (by simp [results, Try.results13, go_sem, r0, r1, r2]) rfl ?_
    rw [HR.out]
    exact ⟨⟨go1, l.length, rfl, (((F4.out.setOff (a := ⟨w.heap.size + 1, 0, none⟩) (by dsimp only; omega) _).setOff (a := ⟨w.heap.size + 1, 1, none⟩) (by dsimp only; omega) _).setOff (a := ⟨w.heap.size + 1, 2, none⟩) (by dsimp only; omega) _).wide (by omega) (by simp <;> omega)⟩, (((hB4.setCell (p := ⟨w.heap.size + 1, 0, none⟩) (by dsimp only; omega) _).setCell (p := ⟨w.heap.size + 1, 1, none⟩) (by dsimp only; omega) _).setCell (p := ⟨w.heap.size + 1, 2, none⟩) (by dsimp only; omega) _)⟩
  have HM := hid hm
  by_cases h4 : l.length = 40
  · have HR := hid (addWR_full hg h0 hm h4)
    have h4' : ((l.length : Int) == 40) = true := by simp; omega
    clear hg h0 hm h4
    go_enter Try.func13, Try.ntmps13
    go_wp2_with fail
    rw [← H0.out]
    refine (implGoodPool_is s1 s2 lo lc l w0 true hl (hz.later hB0) HG.out).mono ?_
    rintro e w1 ⟨rfl, hb1⟩
    have hB1 := hB0.trans (hb1.mono hB0.size)
    have hs1 : w.heap.size + 1 + 1 ≤ w1.heap.size := Nat.le_trans hs0 hb1.size
    have hz1 : w0.heap.size ≤ w1.heap.size := hb1.size
    have XA1 := hid (XA0.out.later hb1)
    have XR1 := hid (XR0.out.later hb1)
    clear XA0 XR0
    clear hb1
    have a0 := XA1.out.c 0 rfl
    have af0 := XA1.out.f 0 rfl
    have a1 := XA1.out.c 1 rfl
    have af1 := XA1.out.f 1 rfl
    have a2 := XA1.out.c 2 rfl
    have af2 := XA1.out.f 2 rfl
    have az := XA1.out.size
    have r0 := XR1.out.c 0 rfl
    have rf0 := XR1.out.f 0 rfl
    have r1 := XR1.out.c 1 rfl
    have rf1 := XR1.out.f 1 rfl
    have r2 := XR1.out.c 2 rfl
    have rf2 := XR1.out.f 2 rfl
    have rz := XR1.out.size
    go_wp2_with fail
    clear a0 af0 a1 af1 a2 af2 az r0 rf0 r1 rf1 r2 rf2 rz
    refine (copyPool_any s1 s2 lo lc l w1 hl (hz.later hB1)).mono ?_
    rintro e w2 ⟨⟨go1, rfl, hF⟩, hb2⟩
    have hB2 := hB1.trans (hb2.mono hB1.size)
    have hs2 : w.heap.size + 1 + 1 ≤ w2.heap.size := Nat.le_trans hs1 hb2.size
    have hz2 : w1.heap.size ≤ w2.heap.size := hb2.size
    have XA2 := hid (XA1.out.later hb2)
    have XR2 := hid (XR1.out.later hb2)
    clear XA1 XR1
    have F2 := hid (hF)
    clear hb2 hF
    have a0 := XA2.out.c 0 rfl
    have af0 := XA2.out.f 0 rfl
    have a1 := XA2.out.c 1 rfl
    have af1 := XA2.out.f 1 rfl
    have a2 := XA2.out.c 2 rfl
    have af2 := XA2.out.f 2 rfl
    have az := XA2.out.size
    have r0 := XR2.out.c 0 rfl
    have rf0 := XR2.out.f 0 rfl
    have r1 := XR2.out.c 1 rfl
    have rf1 := XR2.out.f 1 rfl
    have r2 := XR2.out.c 2 rfl
    have rf2 := XR2.out.f 2 rfl
    have rz := XR2.out.size
    obtain ⟨w3, hV⟩ : ∃ V, V = w2.alloc (.cells #[.int .i64 s1, .int .i64 s2, .slice go1 l.length l.length] 29) := ⟨_, rfl⟩
    have hz3 : w2.heap.size ≤ w3.heap.size := by rw [hV]; simp
    have hs3 : w.heap.size + 1 + 1 ≤ w3.heap.size := Nat.le_trans hs2 hz3
    have hB3 : Below w.heap.size w w3 := by rw [hV]; exact Below.allocS hB2 _
    have XA3 := hid (XA2.out.alloc (.cells #[.int .i64 s1, .int .i64 s2, .slice go1 l.length l.length] 29))
    rw [← hV] at XA3
    have XR3 := hid (XR2.out.alloc (.cells #[.int .i64 s1, .int .i64 s2, .slice go1 l.length l.length] 29))
    rw [← hV] at XR3
    have F3 := hid (F2.out.later (below1 w2 (.cells #[.int .i64 s1, .int .i64 s2, .slice go1 l.length l.length] 29)))
    rw [← hV] at F3
    have H3 : Hid (w3 = w2.alloc (.cells #[.int .i64 s1, .int .i64 s2, .slice go1 l.length l.length] 29)) := hV
    clear hV XA2 XR2 F2
    have XN3 : Hid (Bx w3 w2.heap.size [.int .i64 s1, .int .i64 s2, .slice go1 l.length l.length]) := by rw [H3.out]; exact Bx.new [.int .i64 s1, .int .i64 s2, .slice go1 l.length l.length] _ rfl
    have hy3 : w2.heap.size < w3.heap.size := XN3.out.size
    go_wp2_with fail
    clear a0 af0 a1 af1 a2 af2 az r0 rf0 r1 rf1 r2 rf2 rz
    rw [← H3.out]
    refine (workIds_any lo lc l w3 hl (hz.later hB3)).mono ?_
    rintro e w4 ⟨⟨qo, qc, rfl, hQ⟩, hb4⟩
    have hB4 := hB3.trans (hb4.mono hB3.size)
    have hs4 : w.heap.size + 1 + 1 ≤ w4.heap.size := Nat.le_trans hs3 hb4.size
    have hz4 : w3.heap.size ≤ w4.heap.size := hb4.size
    have XA4 := hid (XA3.out.later hb4)
    have XR4 := hid (XR3.out.later hb4)
    have XN4 := hid (XN3.out.later hb4)
    have F4 := hid (F3.out.later hb4)
    clear XA3 XR3 XN3 F3
    have Q4 := hid (hQ)
    clear hb4 hQ
    have a0 := XA4.out.c 0 rfl
    have af0 := XA4.out.f 0 rfl
    have a1 := XA4.out.c 1 rfl
    have af1 := XA4.out.f 1 rfl
    have a2 := XA4.out.c 2 rfl
    have af2 := XA4.out.f 2 rfl
    have az := XA4.out.size
    have r0 := XR4.out.c 0 rfl
    have rf0 := XR4.out.f 0 rfl
    have r1 := XR4.out.c 1 rfl
    have rf1 := XR4.out.f 1 rfl
    have r2 := XR4.out.c 2 rfl
    have rf2 := XR4.out.f 2 rfl
    have rz := XR4.out.size
    have n0 := XN4.out.c 0 rfl
    have nf0 := XN4.out.f 0 rfl
    have n1 := XN4.out.c 1 rfl
    have nf1 := XN4.out.f 1 rfl
    have n2 := XN4.out.c 2 rfl
    have nf2 := XN4.out.f 2 rfl
    have nz := XN4.out.size
    go_wp2_with fail
    clear a0 af0 a1 af1 a2 af2 az r0 rf0 r1 rf1 r2 rf2 rz n0 nf0 n1 nf1 n2 nf2 nz
    refine (contains_is _ qo qc (idsOf l) iv _ false hq Q4.out.in HM.out).mono ?_
    rintro e w5 ⟨rfl, hw5⟩
    rw [hw5]
    clear hw5 w5
    have a0 := XA4.out.c 0 rfl
    have af0 := XA4.out.f 0 rfl
    have a1 := XA4.out.c 1 rfl
    have af1 := XA4.out.f 1 rfl
    have a2 := XA4.out.c 2 rfl
    have af2 := XA4.out.f 2 rfl
    have az := XA4.out.size
    have r0 := XR4.out.c 0 rfl
    have rf0 := XR4.out.f 0 rfl
    have r1 := XR4.out.c 1 rfl
    have rf1 := XR4.out.f 1 rfl
    have r2 := XR4.out.c 2 rfl
    have rf2 := XR4.out.f 2 rfl
    have rz := XR4.out.size
    have n0 := XN4.out.c 0 rfl
    have nf0 := XN4.out.f 0 rfl
    have n1 := XN4.out.c 1 rfl
    have nf1 := XN4.out.f 1 rfl
    have n2 := XN4.out.c 2 rfl
    have nf2 := XN4.out.f 2 rfl
    have nz := XN4.out.size
    go_wp2
    refine bodyPost_ret (v := .tuple #[.agg #[.int .i64 s1, .int .i64 s2, .slice go1 l.length l.length], .int .i64 2]) (by simp [results, Try.results13, go_sem, r0, r1, r2]) rfl ?_
    rw [HR.out]
    exact ⟨⟨go1, l.length, rfl, (((F4.out.setOff (a := ⟨w.heap.size + 1, 0, none⟩) (by dsimp only; omega) _).setOff (a := ⟨w.heap.size + 1, 1, none⟩) (by dsimp only; omega) _).setOff (a := ⟨w.heap.size + 1, 2, none⟩) (by dsimp only; omega) _).wide (by omega) (by simp <;> omega)⟩, (((hB4.setCell (p := ⟨w.heap.size + 1, 0, none⟩) (by dsimp only; omega) _).setCell (p := ⟨w.heap.size + 1, 1, none⟩) (by dsimp only; omega) _).setCell (p := ⟨w.heap.size + 1, 2, none⟩) (by dsimp only; omega) _)⟩
  have HR := hid (addWR_ok hg h0 hm h4)
  have h4' : ((l.length : Int) == 40) = false := by simp; omega
  have hfl : ∀ (a : Option Addr) (n c : Nat) (W : World), (Instr.field 57 (.agg #[.slice a n c]) 0).run Try.prog W = .ok (.slice a n c) W := run_field57
  clear hg h0 hm h4
  go_enter Try.func13, Try.ntmps13
  go_wp2_with fail
  rw [← H0.out]
  refine (implGoodPool_is s1 s2 lo lc l w0 true hl (hz.later hB0) HG.out).mono ?_
  rintro e w1 ⟨rfl, hb1⟩
  have hB1 := hB0.trans (hb1.mono hB0.size)
  have hs1 : w.heap.size + 1 + 1 ≤ w1.heap.size := Nat.le_trans hs0 hb1.size
  have hz1 : w0.heap.size ≤ w1.heap.size := hb1.size
  have XA1 := hid (XA0.out.later hb1)
  have XR1 := hid (XR0.out.later hb1)
  clear XA0 XR0
  clear hb1
  have a0 := XA1.out.c 0 rfl
  have af0 := XA1.out.f 0 rfl
  have a1 := XA1.out.c 1 rfl
  have af1 := XA1.out.f 1 rfl
  have a2 := XA1.out.c 2 rfl
  have af2 := XA1.out.f 2 rfl
  have az := XA1.out.size
  have r0 := XR1.out.c 0 rfl
  have rf0 := XR1.out.f 0 rfl
  have r1 := XR1.out.c 1 rfl
  have rf1 := XR1.out.f 1 rfl
  have r2 := XR1.out.c 2 rfl
  have rf2 := XR1.out.f 2 rfl
  have rz := XR1.out.size
  go_wp2_with fail
  clear a0 af0 a1 af1 a2 af2 az r0 rf0 r1 rf1 r2 rf2 rz
  refine (copyPool_any s1 s2 lo lc l w1 hl (hz.later hB1)).mono ?_
  rintro e w2 ⟨⟨go1, rfl, hF⟩, hb2⟩
  have hB2 := hB1.trans (hb2.mono hB1.size)
  have hs2 : w.heap.size + 1 + 1 ≤ w2.heap.size := Nat.le_trans hs1 hb2.size
  have hz2 : w1.heap.size ≤ w2.heap.size := hb2.size
  have XA2 := hid (XA1.out.later hb2)
  have XR2 := hid (XR1.out.later hb2)
  clear XA1 XR1
  have F2 := hid (hF)
  clear hb2 hF
  have a0 := XA2.out.c 0 rfl
  have af0 := XA2.out.f 0 rfl
  have a1 := XA2.out.c 1 rfl
  have af1 := XA2.out.f 1 rfl
  have a2 := XA2.out.c 2 rfl
  have af2 := XA2.out.f 2 rfl
  have az := XA2.out.size
  have r0 := XR2.out.c 0 rfl
  have rf0 := XR2.out.f 0 rfl
  have r1 := XR2.out.c 1 rfl
  have rf1 := XR2.out.f 1 rfl
  have r2 := XR2.out.c 2 rfl
  have rf2 := XR2.out.f 2 rfl
  have rz := XR2.out.size
  obtain ⟨w3, hV⟩ : ∃ V, V = w2.alloc (.cells #[.int .i64 s1, .int .i64 s2, .slice go1 l.length l.length] 29) := ⟨_, rfl⟩
  have hz3 : w2.heap.size ≤ w3.heap.size := by rw [hV]; simp
  have hs3 : w.heap.size + 1 + 1 ≤ w3.heap.size := Nat.le_trans hs2 hz3
  have hB3 : Below w.heap.size w w3 := by rw [hV]; exact Below.allocS hB2 _
  have XA3 := hid (XA2.out.alloc (.cells #[.int .i64 s1, .int .i64 s2, .slice go1 l.length l.length] 29))
  rw [← hV] at XA3
  have XR3 := hid (XR2.out.alloc (.cells #[.int .i64 s1, .int .i64 s2, .slice go1 l.length l.length] 29))
  rw [← hV] at XR3
  have F3 := hid (F2.out.later (below1 w2 (.cells #[.int .i64 s1, .int .i64 s2, .slice go1 l.length l.length] 29)))
  rw [← hV] at F3
  have H3 : Hid (w3 = w2.alloc (.cells #[.int .i64 s1, .int .i64 s2, .slice go1 l.length l.length] 29)) := hV
  clear hV XA2 XR2 F2
  have XN3 : Hid (Bx w3 w2.heap.size [.int .i64 s1, .int .i64 s2, .slice go1 l.length l.length]) := by rw [H3.out]; exact Bx.new [.int .i64 s1, .int .i64 s2, .slice go1 l.length l.length] _ rfl
  have hy3 : w2.heap.size < w3.heap.size := XN3.out.size
  go_wp2_with fail
  clear a0 af0 a1 af1 a2 af2 az r0 rf0 r1 rf1 r2 rf2 rz
  rw [← H3.out]
  refine (workIds_any lo lc l w3 hl (hz.later hB3)).mono ?_
  rintro e w4 ⟨⟨qo, qc, rfl, hQ⟩, hb4⟩
  have hB4 := hB3.trans (hb4.mono hB3.size)
  have hs4 : w.heap.size + 1 + 1 ≤ w4.heap.size := Nat.le_trans hs3 hb4.size
  have hz4 : w3.heap.size ≤ w4.heap.size := hb4.size
  have XA4 := hid (XA3.out.later hb4)
  have XR4 := hid (XR3.out.later hb4)
  have XN4 := hid (XN3.out.later hb4)
  have F4 := hid (F3.out.later hb4)
  clear XA3 XR3 XN3 F3
  have Q4 := hid (hQ)
  clear hb4 hQ
  have a0 := XA4.out.c 0 rfl
  have af0 := XA4.out.f 0 rfl
  have a1 := XA4.out.c 1 rfl
  have af1 := XA4.out.f 1 rfl
  have a2 := XA4.out.c 2 rfl
  have af2 := XA4.out.f 2 rfl
  have az := XA4.out.size
  have r0 := XR4.out.c 0 rfl
  have rf0 := XR4.out.f 0 rfl
  have r1 := XR4.out.c 1 rfl
  have rf1 := XR4.out.f 1 rfl
  have r2 := XR4.out.c 2 rfl
  have rf2 := XR4.out.f 2 rfl
  have rz := XR4.out.size
  have n0 := XN4.out.c 0 rfl
  have nf0 := XN4.out.f 0 rfl
  have n1 := XN4.out.c 1 rfl
  have nf1 := XN4.out.f 1 rfl
  have n2 := XN4.out.c 2 rfl
  have nf2 := XN4.out.f 2 rfl
  have nz := XN4.out.size
  go_wp2_with fail
  clear a0 af0 a1 af1 a2 af2 az r0 rf0 r1 rf1 r2 rf2 rz n0 nf0 n1 nf1 n2 nf2 nz
  refine (contains_is _ qo qc (idsOf l) iv _ false hq Q4.out.in HM.out).mono ?_
  rintro e w5 ⟨rfl, hw5⟩
  rw [hw5]
  clear hw5 w5
  have a0 := XA4.out.c 0 rfl
  have af0 := XA4.out.f 0 rfl
  have a1 := XA4.out.c 1 rfl
  have af1 := XA4.out.f 1 rfl
  have a2 := XA4.out.c 2 rfl
  have af2 := XA4.out.f 2 rfl
  have az := XA4.out.size
  have r0 := XR4.out.c 0 rfl
  have rf0 := XR4.out.f 0 rfl
  have r1 := XR4.out.c 1 rfl
  have rf1 := XR4.out.f 1 rfl
  have r2 := XR4.out.c 2 rfl
  have rf2 := XR4.out.f 2 rfl
  have rz := XR4.out.size
  have n0 := XN4.out.c 0 rfl
  have nf0 := XN4.out.f 0 rfl
  have n1 := XN4.out.c 1 rfl
  have nf1 := XN4.out.f 1 rfl
  have n2 := XN4.out.c 2 rfl
  have nf2 := XN4.out.f 2 rfl
  have nz := XN4.out.size
  go_wp2_with fail
  clear a0 af0 a1 af1 a2 af2 az r0 rf0 r1 rf1 r2 rf2 rz n0 nf0 n1 nf1 n2 nf2 nz
  refine (queueOfW_any lo lc l w4 hl (hz.later hB4)).mono ?_
  rintro e w5 ⟨⟨go2, rfl, hG⟩, hb5⟩
  have hB5 := hB4.trans (hb5.mono hB4.size)
  have hs5 : w.heap.size + 1 + 1 ≤ w5.heap.size := Nat.le_trans hs4 hb5.size
  have hz5 : w4.heap.size ≤ w5.heap.size := hb5.size
  have XA5 := hid (XA4.out.later hb5)
  have XR5 := hid (XR4.out.later hb5)
  have XN5 := hid (XN4.out.later hb5)
  have F5 := hid (F4.out.later hb5)
  have Q5 := hid (Q4.out.later hb5)
  clear XA4 XR4 XN4 F4 Q4
  have G5 := hid (hG)
  clear hb5 hG
  have a0 := XA5.out.c 0 rfl
  have af0 := XA5.out.f 0 rfl
  have a1 := XA5.out.c 1 rfl
  have af1 := XA5.out.f 1 rfl
  have a2 := XA5.out.c 2 rfl
  have af2 := XA5.out.f 2 rfl
  have az := XA5.out.size
  have r0 := XR5.out.c 0 rfl
  have rf0 := XR5.out.f 0 rfl
  have r1 := XR5.out.c 1 rfl
  have rf1 := XR5.out.f 1 rfl
  have r2 := XR5.out.c 2 rfl
  have rf2 := XR5.out.f 2 rfl
  have rz := XR5.out.size
  have n0 := XN5.out.c 0 rfl
  have nf0 := XN5.out.f 0 rfl
  have n1 := XN5.out.c 1 rfl
  have nf1 := XN5.out.f 1 rfl
  have n2 := XN5.out.c 2 rfl
  have nf2 := XN5.out.f 2 rfl
  have nz := XN5.out.size
  go_wp2_with fail
  clear a0 af0 a1 af1 a2 af2 az r0 rf0 r1 rf1 r2 rf2 rz n0 nf0 n1 nf1 n2 nf2 nz
  refine (withW_any go2 l.length l iv 1 0 w5 hl G5.out.in).mono ?_
  rintro e w6 ⟨⟨go3, rfl, hK⟩, hb6⟩
  have hB6 := hB5.trans (hb6.mono hB5.size)
  have hs6 : w.heap.size + 1 + 1 ≤ w6.heap.size := Nat.le_trans hs5 hb6.size
  have hz6 : w5.heap.size ≤ w6.heap.size := hb6.size
  have XA6 := hid (XA5.out.later hb6)
  have XR6 := hid (XR5.out.later hb6)
  have XN6 := hid (XN5.out.later hb6)
  have F6 := hid (F5.out.later hb6)
  have Q6 := hid (Q5.out.later hb6)
  have G6 := hid (G5.out.later hb6)
  clear XA5 XR5 XN5 F5 Q5 G5
  have K6 := hid (hK)
  clear hb6 hK
  have a0 := XA6.out.c 0 rfl
  have af0 := XA6.out.f 0 rfl
  have a1 := XA6.out.c 1 rfl
  have af1 := XA6.out.f 1 rfl
  have a2 := XA6.out.c 2 rfl
  have af2 := XA6.out.f 2 rfl
  have az := XA6.out.size
  have r0 := XR6.out.c 0 rfl
  have rf0 := XR6.out.f 0 rfl
  have r1 := XR6.out.c 1 rfl
  have rf1 := XR6.out.f 1 rfl
  have r2 := XR6.out.c 2 rfl
  have rf2 := XR6.out.f 2 rfl
  have rz := XR6.out.size
  have n0 := XN6.out.c 0 rfl
  have nf0 := XN6.out.f 0 rfl
  have n1 := XN6.out.c 1 rfl
  have nf1 := XN6.out.f 1 rfl
  have n2 := XN6.out.c 2 rfl
  have nf2 := XN6.out.f 2 rfl
  have nz := XN6.out.size
  go_wp2
  refine bodyPost_ret (v := .tuple #[.agg #[.int .i64 s1, .int .i64 s2, .slice go3 (l.length + 1) (l.length + 1)], .int .i64 0]) (by simp [results, Try.results13, go_sem, r0, r1, r2]) rfl ?_
  rw [HR.out]
  exact ⟨⟨go3, l.length + 1, by simp, ((((K6.out.setOff (a := ⟨w2.heap.size, 2, none⟩) (by dsimp only; omega) _).setOff (a := ⟨w.heap.size + 1, 0, none⟩) (by dsimp only; omega) _).setOff (a := ⟨w.heap.size + 1, 1, none⟩) (by dsimp only; omega) _).setOff (a := ⟨w.heap.size + 1, 2, none⟩) (by dsimp only; omega) _).wide (by omega) (by simp <;> omega)⟩, ((((hB6.setCell (p := ⟨w2.heap.size, 2, none⟩) (by dsimp only; omega) _).setCell (p := ⟨w.heap.size + 1, 0, none⟩) (by dsimp only; omega) _).setCell (p := ⟨w.heap.size + 1, 1, none⟩) (by dsimp only; omega) _).setCell (p := ⟨w.heap.size + 1, 2, none⟩) (by dsimp only; omega) _)⟩
end Go.Proofs.Ytmijibgfdhjbfaa
