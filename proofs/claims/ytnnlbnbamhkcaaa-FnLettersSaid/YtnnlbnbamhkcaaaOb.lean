
/- PutSystem, PutLetter: the specification, its rows its own. No conditions but those written. -/
import Derived.Test.YtnnlbnbamhkcaaaEd
import Derived.Test.YtnnlbnbamhkcaaaOa
import Derived.Deep.Cut
namespace Go.Proofs.Ytnnlbnbamhkcaaa
open Go.RowKit

set_option maxRecDepth 10000 in
set_option maxHeartbeats 8000000 in
theorem specPutS_own (kap : Int) (cl : Bool) (bo : Option Addr) (bc : Nat) (b : List Int) (so : Option Addr) (sc : Nat) (s : List (Int × Int × Int)) (ro : Option Addr) (rc : Nat) (r : List (Int × Int × Int)) (iv : Int) (w : World) (hlb : b.length ≤ 1048576) (hls : s.length ≤ 1048576) (hlr : r.length ≤ 1048576) (hz : InBox w.heap.size w bo b so s ro r) (hwf : WfBox bo bc so sc ro rc) :
    Calls Try.prog 37 #[.agg #[.int .i64 kap, .bool cl, .slice bo b.length bc, .slice so s.length sc, .slice ro r.length rc], .int .i64 iv] w fun e w' => AnsO w (sysR kap cl b s r iv) e w' := by
  cases hg : goodX kap b s r
  · have HG : Hid (goodX kap b s r = false) := hg
    have HR : Hid (sysR kap cl b s r iv = (0, false, [], [], [], 1)) := sysR_bad hg
    clear hg
    obtain ⟨w0, hw0⟩ : ∃ w0, w0 = ((w.alloc (.cells #[.int .i64 kap, .bool cl, .slice bo b.length bc, .slice so s.length sc, .slice ro r.length rc] 26)).alloc (.cells #[.int .i64 0, .bool false, .slice none 0 0, .slice none 0 0, .slice none 0 0] 26)) := ⟨_, rfl⟩
    have hB0 : Below w.heap.size w w0 := by rw [hw0]; exact Below.allocS (Below.allocS (Below.refl _ _) _) _
    have XA0 : Hid (Bx w0 (w.heap.size) [.int .i64 kap, .bool cl, .slice bo b.length bc, .slice so s.length sc, .slice ro r.length rc]) := by rw [hw0]; exact Bx.alloc (Bx.new [.int .i64 kap, .bool cl, .slice bo b.length bc, .slice so s.length sc, .slice ro r.length rc] _ rfl) _
    have XR0 : Hid (Bx w0 (w.heap.size + 1) [.int .i64 0, .bool false, .slice none 0 0, .slice none 0 0, .slice none 0 0]) := by rw [hw0]; exact Bx.new [.int .i64 0, .bool false, .slice none 0 0, .slice none 0 0, .slice none 0 0] _ (by simp)
    have H0 : Hid (w0 = ((w.alloc (.cells #[.int .i64 kap, .bool cl, .slice bo b.length bc, .slice so s.length sc, .slice ro r.length rc] 26)).alloc (.cells #[.int .i64 0, .bool false, .slice none 0 0, .slice none 0 0, .slice none 0 0] 26))) := hw0
    have hs0 : w.heap.size + 1 + 1 ≤ w0.heap.size := by rw [hw0]; simp
    clear hw0
    go_enter Try.func37, Try.ntmps37
    go_wp2_with fail
    rw [← H0.out]
    refine (specGood_is kap cl bo bc b so sc s ro rc r w0 false hlb hls hlr (hz.later hB0) HG.out).mono ?_
    rintro e w1 ⟨rfl, hb1⟩
    have hB1 := hB0.trans (hb1.mono hB0.size)
    have hs1 : w.heap.size + 1 + 1 ≤ w1.heap.size := Nat.le_trans hs0 hb1.size
    have hz1 : w0.heap.size ≤ w1.heap.size := hb1.size
    have XA1 := hid (XA0.out.later hb1)
    have XR1 := hid (XR0.out.later hb1)
    clear XA0 XR0
    clear hb1
    have a0 := XA1.out.c 0 rfl
    have af0 := XA1.out.f 0 rfl
    have a1 := XA1.out.c 1 rfl
    have af1 := XA1.out.f 1 rfl
    have a2 := XA1.out.c 2 rfl
    have af2 := XA1.out.f 2 rfl
    have a3 := XA1.out.c 3 rfl
    have af3 := XA1.out.f 3 rfl
    have a4 := XA1.out.c 4 rfl
    have af4 := XA1.out.f 4 rfl
    have az := XA1.out.size
    have r0 := XR1.out.c 0 rfl
    have rf0 := XR1.out.f 0 rfl
    have r1 := XR1.out.c 1 rfl
    have rf1 := XR1.out.f 1 rfl
    have r2 := XR1.out.c 2 rfl
    have rf2 := XR1.out.f 2 rfl
    have r3 := XR1.out.c 3 rfl
    have rf3 := XR1.out.f 3 rfl
    have r4 := XR1.out.c 4 rfl
    have rf4 := XR1.out.f 4 rfl
    have rz := XR1.out.size
    go_wp2
    refine bodyPost_ret (v := .tuple #[.agg #[.int .i64 0, .bool false, .slice none 0 0, .slice none 0 0, .slice none 0 0], .int .i64 1]) (by simp [results, Try.results37, go_sem, r0, r1, r2, r3, r4]) rfl ?_
    rw [HR.out]
    exact ⟨⟨_, _, _, rfl, wBox_nil _ _⟩, (((((hB1.setCell (p := ⟨w.heap.size + 1, 0, none⟩) (by dsimp only; omega) _).setCell (p := ⟨w.heap.size + 1, 1, none⟩) (by dsimp only; omega) _).setCell (p := ⟨w.heap.size + 1, 2, none⟩) (by dsimp only; omega) _).setCell (p := ⟨w.heap.size + 1, 3, none⟩) (by dsimp only; omega) _).setCell (p := ⟨w.heap.size + 1, 4, none⟩) (by dsimp only; omega) _)⟩
  have HG : Hid (goodX kap b s r = true) := hg
  by_cases h0 : b.length = 30
  · have HR : Hid (sysR kap cl b s r iv = (kap, cl, b, s, r, 3)) := by rw [Hid, sysR, if_pos hg, if_pos h0]
    have h0' : ((b.length : Int) == 30) = true := by simp [h0]
    have hb30 := (goodX_good hg).2.2.1
    clear hg h0
    obtain ⟨w0, hw0⟩ : ∃ w0, w0 = ((w.alloc (.cells #[.int .i64 kap, .bool cl, .slice bo b.length bc, .slice so s.length sc, .slice ro r.length rc] 26)).alloc (.cells #[.int .i64 0, .bool false, .slice none 0 0, .slice none 0 0, .slice none 0 0] 26)) := ⟨_, rfl⟩
    have hB0 : Below w.heap.size w w0 := by rw [hw0]; exact Below.allocS (Below.allocS (Below.refl _ _) _) _
    have XA0 : Hid (Bx w0 (w.heap.size) [.int .i64 kap, .bool cl, .slice bo b.length bc, .slice so s.length sc, .slice ro r.length rc]) := by rw [hw0]; exact Bx.alloc (Bx.new [.int .i64 kap, .bool cl, .slice bo b.length bc, .slice so s.length sc, .slice ro r.length rc] _ rfl) _
    have XR0 : Hid (Bx w0 (w.heap.size + 1) [.int .i64 0, .bool false, .slice none 0 0, .slice none 0 0, .slice none 0 0]) := by rw [hw0]; exact Bx.new [.int .i64 0, .bool false, .slice none 0 0, .slice none 0 0, .slice none 0 0] _ (by simp)
    have H0 : Hid (w0 = ((w.alloc (.cells #[.int .i64 kap, .bool cl, .slice bo b.length bc, .slice so s.length sc, .slice ro r.length rc] 26)).alloc (.cells #[.int .i64 0, .bool false, .slice none 0 0, .slice none 0 0, .slice none 0 0] 26))) := hw0
    have hs0 : w.heap.size + 1 + 1 ≤ w0.heap.size := by rw [hw0]; simp
    clear hw0
    go_enter Try.func37, Try.ntmps37
    go_wp2_with fail
    rw [← H0.out]
    refine (specGood_is kap cl bo bc b so sc s ro rc r w0 true hlb hls hlr (hz.later hB0) HG.out).mono ?_
    rintro e w1 ⟨rfl, hb1⟩
    have hB1 := hB0.trans (hb1.mono hB0.size)
    have hs1 : w.heap.size + 1 + 1 ≤ w1.heap.size := Nat.le_trans hs0 hb1.size
    have hz1 : w0.heap.size ≤ w1.heap.size := hb1.size
    have XA1 := hid (XA0.out.later hb1)
    have XR1 := hid (XR0.out.later hb1)
    clear XA0 XR0
    clear hb1
    have a0 := XA1.out.c 0 rfl
    have af0 := XA1.out.f 0 rfl
    have a1 := XA1.out.c 1 rfl
    have af1 := XA1.out.f 1 rfl
    have a2 := XA1.out.c 2 rfl
    have af2 := XA1.out.f 2 rfl
    have a3 := XA1.out.c 3 rfl
    have af3 := XA1.out.f 3 rfl
    have a4 := XA1.out.c 4 rfl
    have af4 := XA1.out.f 4 rfl
    have az := XA1.out.size
    have r0 := XR1.out.c 0 rfl
    have rf0 := XR1.out.f 0 rfl
    have r1 := XR1.out.c 1 rfl
    have rf1 := XR1.out.f 1 rfl
    have r2 := XR1.out.c 2 rfl
    have rf2 := XR1.out.f 2 rfl
    have r3 := XR1.out.c 3 rfl
    have rf3 := XR1.out.f 3 rfl
    have r4 := XR1.out.c 4 rfl
    have rf4 := XR1.out.f 4 rfl
    have rz := XR1.out.size
    go_wp2_with fail
    clear a0 af0 a1 af1 a2 af2 a3 af3 a4 af4 az r0 rf0 r1 rf1 r2 rf2 r3 rf3 r4 rf4 rz
    refine (ownBox_any kap cl bo bc b so sc s ro rc r w1 hlb hls hlr (hz.later hB1) hwf).mono ?_
    rintro e w2 ⟨⟨gb, bc1, gs, sc1, gr, rc1, rfl, hF⟩, hb2⟩
    have hB2 := hB1.trans (hb2.mono hB1.size)
    have hs2 : w.heap.size + 1 + 1 ≤ w2.heap.size := Nat.le_trans hs1 hb2.size
    have hz2 : w1.heap.size ≤ w2.heap.size := hb2.size
    have XA2 := hid (XA1.out.later hb2)
    have XR2 := hid (XR1.out.later hb2)
    clear XA1 XR1
    have F2 := hid (hF)
    clear hb2 hF
    have a0 := XA2.out.c 0 rfl
    have af0 := XA2.out.f 0 rfl
    have a1 := XA2.out.c 1 rfl
    have af1 := XA2.out.f 1 rfl
    have a2 := XA2.out.c 2 rfl
    have af2 := XA2.out.f 2 rfl
    have a3 := XA2.out.c 3 rfl
    have af3 := XA2.out.f 3 rfl
    have a4 := XA2.out.c 4 rfl
    have af4 := XA2.out.f 4 rfl
    have az := XA2.out.size
    have r0 := XR2.out.c 0 rfl
    have rf0 := XR2.out.f 0 rfl
    have r1 := XR2.out.c 1 rfl
    have rf1 := XR2.out.f 1 rfl
    have r2 := XR2.out.c 2 rfl
    have rf2 := XR2.out.f 2 rfl
    have r3 := XR2.out.c 3 rfl
    have rf3 := XR2.out.f 3 rfl
    have r4 := XR2.out.c 4 rfl
    have rf4 := XR2.out.f 4 rfl
    have rz := XR2.out.size
    go_upto_region 4 with fail
    clear a0 af0 a1 af1 a2 af2 a3 af3 a4 af4 az r0 rf0 r1 rf1 r2 rf2 r3 rf3 r4 rf4 rz
    obtain ⟨w3, hV⟩ : ∃ V, V = (((((w2.setCell ⟨w.heap.size, 0, none⟩ (.int .i64 kap)).setCell ⟨w.heap.size, 1, none⟩ (.bool cl)).setCell ⟨w.heap.size, 2, none⟩ (.slice (some ⟨gb, 0, none⟩) b.length bc1)).setCell ⟨w.heap.size, 3, none⟩ (.slice (some ⟨gs, 0, none⟩) s.length sc1)).setCell ⟨w.heap.size, 4, none⟩ (.slice (some ⟨gr, 0, none⟩) r.length rc1)) := ⟨_, rfl⟩
    have hz3 : w2.heap.size ≤ w3.heap.size := by rw [hV]; simp [World.setCell]
    have hs3 : w.heap.size + 1 + 1 ≤ w3.heap.size := Nat.le_trans hs2 hz3
    have hB3 : Below w.heap.size w w3 := by rw [hV]; exact (((((hB2.setCell (p := ⟨w.heap.size, 0, none⟩) (by dsimp only; omega) _).setCell (p := ⟨w.heap.size, 1, none⟩) (by dsimp only; omega) _).setCell (p := ⟨w.heap.size, 2, none⟩) (by dsimp only; omega) _).setCell (p := ⟨w.heap.size, 3, none⟩) (by dsimp only; omega) _).setCell (p := ⟨w.heap.size, 4, none⟩) (by dsimp only; omega) _)
    have XA3 := hid ((((((XA2.out.set 0 (.int .i64 kap)).set 1 (.bool cl)).set 2 (.slice (some ⟨gb, 0, none⟩) b.length bc1)).set 3 (.slice (some ⟨gs, 0, none⟩) s.length sc1)).set 4 (.slice (some ⟨gr, 0, none⟩) r.length rc1)))
    rw [← hV] at XA3
    have XR3 := hid ((((((XR2.out.other (a := ⟨w.heap.size, 0, none⟩) (by dsimp only; omega) (.int .i64 kap)).other (a := ⟨w.heap.size, 1, none⟩) (by dsimp only; omega) (.bool cl)).other (a := ⟨w.heap.size, 2, none⟩) (by dsimp only; omega) (.slice (some ⟨gb, 0, none⟩) b.length bc1)).other (a := ⟨w.heap.size, 3, none⟩) (by dsimp only; omega) (.slice (some ⟨gs, 0, none⟩) s.length sc1)).other (a := ⟨w.heap.size, 4, none⟩) (by dsimp only; omega) (.slice (some ⟨gr, 0, none⟩) r.length rc1)))
    rw [← hV] at XR3
    have F3 := hid ((((((F2.out.setBelow (a := ⟨w.heap.size, 0, none⟩) (by dsimp only; omega) (.int .i64 kap)).setBelow (a := ⟨w.heap.size, 1, none⟩) (by dsimp only; omega) (.bool cl)).setBelow (a := ⟨w.heap.size, 2, none⟩) (by dsimp only; omega) (.slice (some ⟨gb, 0, none⟩) b.length bc1)).setBelow (a := ⟨w.heap.size, 3, none⟩) (by dsimp only; omega) (.slice (some ⟨gs, 0, none⟩) s.length sc1)).setBelow (a := ⟨w.heap.size, 4, none⟩) (by dsimp only; omega) (.slice (some ⟨gr, 0, none⟩) r.length rc1)))
    rw [← hV] at F3
    have H3 : Hid (w3 = (((((w2.setCell ⟨w.heap.size, 0, none⟩ (.int .i64 kap)).setCell ⟨w.heap.size, 1, none⟩ (.bool cl)).setCell ⟨w.heap.size, 2, none⟩ (.slice (some ⟨gb, 0, none⟩) b.length bc1)).setCell ⟨w.heap.size, 3, none⟩ (.slice (some ⟨gs, 0, none⟩) s.length sc1)).setCell ⟨w.heap.size, 4, none⟩ (.slice (some ⟨gr, 0, none⟩) r.length rc1))) := hV
    clear hV XA2 XR2 F2
    rw [← H3.out]
    clear H3
    have a0 := XA3.out.c 0 rfl
    have af0 := XA3.out.f 0 rfl
    have a1 := XA3.out.c 1 rfl
    have af1 := XA3.out.f 1 rfl
    have a2 := XA3.out.c 2 rfl
    have af2 := XA3.out.f 2 rfl
    have a3 := XA3.out.c 3 rfl
    have af3 := XA3.out.f 3 rfl
    have a4 := XA3.out.c 4 rfl
    have af4 := XA3.out.f 4 rfl
    have az := XA3.out.size
    have r0 := XR3.out.c 0 rfl
    have rf0 := XR3.out.f 0 rfl
    have r1 := XR3.out.c 1 rfl
    have rf1 := XR3.out.f 1 rfl
    have r2 := XR3.out.c 2 rfl
    have rf2 := XR3.out.f 2 rfl
    have r3 := XR3.out.c 3 rfl
    have rf3 := XR3.out.f 3 rfl
    have r4 := XR3.out.c 4 rfl
    have rf4 := XR3.out.f 4 rfl
    have rz := XR3.out.size
    go_wp2
    refine bodyPost_ret (v := .tuple #[.agg #[.int .i64 kap, .bool cl, .slice (some ⟨gb, 0, none⟩) b.length bc1, .slice (some ⟨gs, 0, none⟩) s.length sc1, .slice (some ⟨gr, 0, none⟩) r.length rc1], .int .i64 3]) (by simp [results, Try.results37, go_sem, r0, r1, r2, r3, r4]) rfl ?_
    rw [HR.out]
    exact ⟨⟨_, _, _, rfl, (OBox.w (((((F3.out.setBelow (a := ⟨w.heap.size + 1, 0, none⟩) (by dsimp only; omega) _).setBelow (a := ⟨w.heap.size + 1, 1, none⟩) (by dsimp only; omega) _).setBelow (a := ⟨w.heap.size + 1, 2, none⟩) (by dsimp only; omega) _).setBelow (a := ⟨w.heap.size + 1, 3, none⟩) (by dsimp only; omega) _).setBelow (a := ⟨w.heap.size + 1, 4, none⟩) (by dsimp only; omega) _)).low (by omega)⟩, (((((hB3.setCell (p := ⟨w.heap.size + 1, 0, none⟩) (by dsimp only; omega) _).setCell (p := ⟨w.heap.size + 1, 1, none⟩) (by dsimp only; omega) _).setCell (p := ⟨w.heap.size + 1, 2, none⟩) (by dsimp only; omega) _).setCell (p := ⟨w.heap.size + 1, 3, none⟩) (by dsimp only; omega) _).setCell (p := ⟨w.heap.size + 1, 4, none⟩) (by dsimp only; omega) _)⟩
  · have HR : Hid (sysR kap cl b s r iv = (kap, cl, b ++ [iv], s, r, 0)) := by rw [Hid, sysR, if_pos hg, if_neg h0]
    have h0' : ((b.length : Int) == 30) = false := by simp; omega
    have hb30 := (goodX_good hg).2.2.1
    clear hg h0
    obtain ⟨w0, hw0⟩ : ∃ w0, w0 = ((w.alloc (.cells #[.int .i64 kap, .bool cl, .slice bo b.length bc, .slice so s.length sc, .slice ro r.length rc] 26)).alloc (.cells #[.int .i64 0, .bool false, .slice none 0 0, .slice none 0 0, .slice none 0 0] 26)) := ⟨_, rfl⟩
    have hB0 : Below w.heap.size w w0 := by rw [hw0]; exact Below.allocS (Below.allocS (Below.refl _ _) _) _
    have XA0 : Hid (Bx w0 (w.heap.size) [.int .i64 kap, .bool cl, .slice bo b.length bc, .slice so s.length sc, .slice ro r.length rc]) := by rw [hw0]; exact Bx.alloc (Bx.new [.int .i64 kap, .bool cl, .slice bo b.length bc, .slice so s.length sc, .slice ro r.length rc] _ rfl) _
    have XR0 : Hid (Bx w0 (w.heap.size + 1) [.int .i64 0, .bool false, .slice none 0 0, .slice none 0 0, .slice none 0 0]) := by rw [hw0]; exact Bx.new [.int .i64 0, .bool false, .slice none 0 0, .slice none 0 0, .slice none 0 0] _ (by simp)
    have H0 : Hid (w0 = ((w.alloc (.cells #[.int .i64 kap, .bool cl, .slice bo b.length bc, .slice so s.length sc, .slice ro r.length rc] 26)).alloc (.cells #[.int .i64 0, .bool false, .slice none 0 0, .slice none 0 0, .slice none 0 0] 26))) := hw0
    have hs0 : w.heap.size + 1 + 1 ≤ w0.heap.size := by rw [hw0]; simp
    clear hw0
    go_enter Try.func37, Try.ntmps37
    go_wp2_with fail
    rw [← H0.out]
    refine (specGood_is kap cl bo bc b so sc s ro rc r w0 true hlb hls hlr (hz.later hB0) HG.out).mono ?_
    rintro e w1 ⟨rfl, hb1⟩
    have hB1 := hB0.trans (hb1.mono hB0.size)
    have hs1 : w.heap.size + 1 + 1 ≤ w1.heap.size := Nat.le_trans hs0 hb1.size
    have hz1 : w0.heap.size ≤ w1.heap.size := hb1.size
    have XA1 := hid (XA0.out.later hb1)
    have XR1 := hid (XR0.out.later hb1)
    clear XA0 XR0
    clear hb1
    have a0 := XA1.out.c 0 rfl
    have af0 := XA1.out.f 0 rfl
    have a1 := XA1.out.c 1 rfl
    have af1 := XA1.out.f 1 rfl
    have a2 := XA1.out.c 2 rfl
    have af2 := XA1.out.f 2 rfl
    have a3 := XA1.out.c 3 rfl
    have af3 := XA1.out.f 3 rfl
    have a4 := XA1.out.c 4 rfl
    have af4 := XA1.out.f 4 rfl
    have az := XA1.out.size
    have r0 := XR1.out.c 0 rfl
    have rf0 := XR1.out.f 0 rfl
    have r1 := XR1.out.c 1 rfl
    have rf1 := XR1.out.f 1 rfl
    have r2 := XR1.out.c 2 rfl
    have rf2 := XR1.out.f 2 rfl
    have r3 := XR1.out.c 3 rfl
    have rf3 := XR1.out.f 3 rfl
    have r4 := XR1.out.c 4 rfl
    have rf4 := XR1.out.f 4 rfl
    have rz := XR1.out.size
    go_wp2_with fail
    clear a0 af0 a1 af1 a2 af2 a3 af3 a4 af4 az r0 rf0 r1 rf1 r2 rf2 r3 rf3 r4 rf4 rz
    refine (ownBox_any kap cl bo bc b so sc s ro rc r w1 hlb hls hlr (hz.later hB1) hwf).mono ?_
    rintro e w2 ⟨⟨gb, bc1, gs, sc1, gr, rc1, rfl, hF⟩, hb2⟩
    have hB2 := hB1.trans (hb2.mono hB1.size)
    have hs2 : w.heap.size + 1 + 1 ≤ w2.heap.size := Nat.le_trans hs1 hb2.size
    have hz2 : w1.heap.size ≤ w2.heap.size := hb2.size
    have XA2 := hid (XA1.out.later hb2)
    have XR2 := hid (XR1.out.later hb2)
    clear XA1 XR1
    have F2 := hid (hF)
    clear hb2 hF
    have a0 := XA2.out.c 0 rfl
    have af0 := XA2.out.f 0 rfl
    have a1 := XA2.out.c 1 rfl
    have af1 := XA2.out.f 1 rfl
    have a2 := XA2.out.c 2 rfl
    have af2 := XA2.out.f 2 rfl
    have a3 := XA2.out.c 3 rfl
    have af3 := XA2.out.f 3 rfl
    have a4 := XA2.out.c 4 rfl
    have af4 := XA2.out.f 4 rfl
    have az := XA2.out.size
    have r0 := XR2.out.c 0 rfl
    have rf0 := XR2.out.f 0 rfl
    have r1 := XR2.out.c 1 rfl
    have rf1 := XR2.out.f 1 rfl
    have r2 := XR2.out.c 2 rfl
    have rf2 := XR2.out.f 2 rfl
    have r3 := XR2.out.c 3 rfl
    have rf3 := XR2.out.f 3 rfl
    have r4 := XR2.out.c 4 rfl
    have rf4 := XR2.out.f 4 rfl
    have rz := XR2.out.size
    go_upto_region 6 with fail
    clear a0 af0 a1 af1 a2 af2 a3 af3 a4 af4 az r0 rf0 r1 rf1 r2 rf2 r3 rf3 r4 rf4 rz
    obtain ⟨w3, hV⟩ : ∃ V, V = (((((w2.setCell ⟨w.heap.size, 0, none⟩ (.int .i64 kap)).setCell ⟨w.heap.size, 1, none⟩ (.bool cl)).setCell ⟨w.heap.size, 2, none⟩ (.slice (some ⟨gb, 0, none⟩) b.length bc1)).setCell ⟨w.heap.size, 3, none⟩ (.slice (some ⟨gs, 0, none⟩) s.length sc1)).setCell ⟨w.heap.size, 4, none⟩ (.slice (some ⟨gr, 0, none⟩) r.length rc1)) := ⟨_, rfl⟩
    have hz3 : w2.heap.size ≤ w3.heap.size := by rw [hV]; simp [World.setCell]
    have hs3 : w.heap.size + 1 + 1 ≤ w3.heap.size := Nat.le_trans hs2 hz3
    have hB3 : Below w.heap.size w w3 := by rw [hV]; exact (((((hB2.setCell (p := ⟨w.heap.size, 0, none⟩) (by dsimp only; omega) _).setCell (p := ⟨w.heap.size, 1, none⟩) (by dsimp only; omega) _).setCell (p := ⟨w.heap.size, 2, none⟩) (by dsimp only; omega) _).setCell (p := ⟨w.heap.size, 3, none⟩) (by dsimp only; omega) _).setCell (p := ⟨w.heap.size, 4, none⟩) (by dsimp only; omega) _)
    have XA3 := hid ((((((XA2.out.set 0 (.int .i64 kap)).set 1 (.bool cl)).set 2 (.slice (some ⟨gb, 0, none⟩) b.length bc1)).set 3 (.slice (some ⟨gs, 0, none⟩) s.length sc1)).set 4 (.slice (some ⟨gr, 0, none⟩) r.length rc1)))
    rw [← hV] at XA3
    have XR3 := hid ((((((XR2.out.other (a := ⟨w.heap.size, 0, none⟩) (by dsimp only; omega) (.int .i64 kap)).other (a := ⟨w.heap.size, 1, none⟩) (by dsimp only; omega) (.bool cl)).other (a := ⟨w.heap.size, 2, none⟩) (by dsimp only; omega) (.slice (some ⟨gb, 0, none⟩) b.length bc1)).other (a := ⟨w.heap.size, 3, none⟩) (by dsimp only; omega) (.slice (some ⟨gs, 0, none⟩) s.length sc1)).other (a := ⟨w.heap.size, 4, none⟩) (by dsimp only; omega) (.slice (some ⟨gr, 0, none⟩) r.length rc1)))
    rw [← hV] at XR3
    have F3 := hid ((((((F2.out.setBelow (a := ⟨w.heap.size, 0, none⟩) (by dsimp only; omega) (.int .i64 kap)).setBelow (a := ⟨w.heap.size, 1, none⟩) (by dsimp only; omega) (.bool cl)).setBelow (a := ⟨w.heap.size, 2, none⟩) (by dsimp only; omega) (.slice (some ⟨gb, 0, none⟩) b.length bc1)).setBelow (a := ⟨w.heap.size, 3, none⟩) (by dsimp only; omega) (.slice (some ⟨gs, 0, none⟩) s.length sc1)).setBelow (a := ⟨w.heap.size, 4, none⟩) (by dsimp only; omega) (.slice (some ⟨gr, 0, none⟩) r.length rc1)))
    rw [← hV] at F3
    have H3 : Hid (w3 = (((((w2.setCell ⟨w.heap.size, 0, none⟩ (.int .i64 kap)).setCell ⟨w.heap.size, 1, none⟩ (.bool cl)).setCell ⟨w.heap.size, 2, none⟩ (.slice (some ⟨gb, 0, none⟩) b.length bc1)).setCell ⟨w.heap.size, 3, none⟩ (.slice (some ⟨gs, 0, none⟩) s.length sc1)).setCell ⟨w.heap.size, 4, none⟩ (.slice (some ⟨gr, 0, none⟩) r.length rc1))) := hV
    clear hV XA2 XR2 F2
    rw [← H3.out]
    clear H3
    have a0 := XA3.out.c 0 rfl
    have af0 := XA3.out.f 0 rfl
    have a1 := XA3.out.c 1 rfl
    have af1 := XA3.out.f 1 rfl
    have a2 := XA3.out.c 2 rfl
    have af2 := XA3.out.f 2 rfl
    have a3 := XA3.out.c 3 rfl
    have af3 := XA3.out.f 3 rfl
    have a4 := XA3.out.c 4 rfl
    have af4 := XA3.out.f 4 rfl
    have az := XA3.out.size
    have r0 := XR3.out.c 0 rfl
    have rf0 := XR3.out.f 0 rfl
    have r1 := XR3.out.c 1 rfl
    have rf1 := XR3.out.f 1 rfl
    have r2 := XR3.out.c 2 rfl
    have rf2 := XR3.out.f 2 rfl
    have r3 := XR3.out.c 3 rfl
    have rf3 := XR3.out.f 3 rfl
    have r4 := XR3.out.c 4 rfl
    have rf4 := XR3.out.f 4 rfl
    have rz := XR3.out.size
    have FA := hid (F3.out.below (below1 w3 (.cells #[.int .i64 iv] 3)))
    have HN : Hid (kI.In (w3.heap.size + 1) (w3.alloc (.cells #[.int .i64 iv] 3)) (some ⟨w3.heap.size, 0, none⟩) [iv]) := int_one (by omega) (by simp)
    obtain ⟨zs, hzs⟩ : ∃ zs, zs = b ++ [iv] := ⟨_, rfl⟩
    have HZS : Hid (zs = b ++ [iv]) := hzs
    clear hzs
    have XAA := hid (XA3.out.alloc (.cells #[.int .i64 iv] 3))
    have XAR := hid (XR3.out.alloc (.cells #[.int .i64 iv] 3))
    have hBA : Below w.heap.size w (w3.alloc (.cells #[.int .i64 iv] 3)) := Below.allocS hB3 _
    go_wp2_with (at_builtin; have hga := own_at F3.out.1; refine Kind.appO kI_ok (w3.alloc (.cells #[.int .i64 iv] 3)) rfl (.tmp 18) (.tmp 20) rfl (w1.heap.size) gb b.length bc1 b rfl FA.out.1 (by simp <;> omega) (some ⟨w3.heap.size, 0, none⟩) [iv] 1 1 rfl rfl (by simp) _ HN.out (by simp <;> omega) zs HZS.out ?_; intro g' c' w4 hO hB hG hw; have hB4 : Below w.heap.size w w4 := hBA.trans (hB.mono (by omega)); have hz4 : w3.heap.size ≤ w4.heap.size := (by have := hB.size; simp at this; omega); have hs4 : w.heap.size + 1 + 1 ≤ w4.heap.size := (by omega); have XA4 := hid (XAA.out.grown hG (by omega)); have XR4 := hid (XAR.out.grown hG (by omega)); have F4 := hid (OBox.put0 FA.out hO hG hw); clear hO hB hG hw HN FA hBA hga XAA XA3 XAR XR3 a0 af0 a1 af1 a2 af2 a3 af3 a4 af4 az r0 rf0 r1 rf1 r2 rf2 r3 rf3 r4 rf4 rz; have a0 := XA4.out.c 0 rfl; have af0 := XA4.out.f 0 rfl; have a1 := XA4.out.c 1 rfl; have af1 := XA4.out.f 1 rfl; have a2 := XA4.out.c 2 rfl; have af2 := XA4.out.f 2 rfl; have a3 := XA4.out.c 3 rfl; have af3 := XA4.out.f 3 rfl; have a4 := XA4.out.c 4 rfl; have af4 := XA4.out.f 4 rfl; have az := XA4.out.size; have r0 := XR4.out.c 0 rfl; have rf0 := XR4.out.f 0 rfl; have r1 := XR4.out.c 1 rfl; have rf1 := XR4.out.f 1 rfl; have r2 := XR4.out.c 2 rfl; have rf2 := XR4.out.f 2 rfl; have r3 := XR4.out.c 3 rfl; have rf3 := XR4.out.f 3 rfl; have r4 := XR4.out.c 4 rfl; have rf4 := XR4.out.f 4 rfl; have rz := XR4.out.size)
    refine bodyPost_ret (v := .tuple #[.agg #[.int .i64 kap, .bool cl, (.slice (some ⟨g', 0, none⟩) zs.length c'), .slice (some ⟨gs, 0, none⟩) s.length sc1, .slice (some ⟨gr, 0, none⟩) r.length rc1], .int .i64 0]) (by simp [results, Try.results37, go_sem, r0, r1, r2, r3, r4]) rfl ?_
    rw [HR.out, ← HZS.out]
    exact ⟨⟨_, _, _, rfl, (OBox.w ((((((F4.out.setBelow (a := ⟨w.heap.size, 2, none⟩) (by dsimp only; omega) _).setBelow (a := ⟨w.heap.size + 1, 0, none⟩) (by dsimp only; omega) _).setBelow (a := ⟨w.heap.size + 1, 1, none⟩) (by dsimp only; omega) _).setBelow (a := ⟨w.heap.size + 1, 2, none⟩) (by dsimp only; omega) _).setBelow (a := ⟨w.heap.size + 1, 3, none⟩) (by dsimp only; omega) _).setBelow (a := ⟨w.heap.size + 1, 4, none⟩) (by dsimp only; omega) _)).low (by omega)⟩, ((((((hB4.setCell (p := ⟨w.heap.size, 2, none⟩) (by dsimp only; omega) _).setCell (p := ⟨w.heap.size + 1, 0, none⟩) (by dsimp only; omega) _).setCell (p := ⟨w.heap.size + 1, 1, none⟩) (by dsimp only; omega) _).setCell (p := ⟨w.heap.size + 1, 2, none⟩) (by dsimp only; omega) _).setCell (p := ⟨w.heap.size + 1, 3, none⟩) (by dsimp only; omega) _).setCell (p := ⟨w.heap.size + 1, 4, none⟩) (by dsimp only; omega) _)⟩
set_option maxRecDepth 10000 in
set_option maxHeartbeats 8000000 in
theorem specPutL_own (kap : Int) (cl : Bool) (bo : Option Addr) (bc : Nat) (b : List Int) (so : Option Addr) (sc : Nat) (s : List (Int × Int × Int)) (ro : Option Addr) (rc : Nat) (r : List (Int × Int × Int)) (iv jv : Int) (w : World) (hlb : b.length ≤ 1048576) (hls : s.length ≤ 1048576) (hlr : r.length ≤ 1048576) (hz : InBox w.heap.size w bo b so s ro r) (hwf : WfBox bo bc so sc ro rc) :
    Calls Try.prog 40 #[.agg #[.int .i64 kap, .bool cl, .slice bo b.length bc, .slice so s.length sc, .slice ro r.length rc], .int .i64 iv, .int .i64 jv] w fun e w' => AnsO w (putR kap cl b s r iv jv) e w' := by
  cases hg : goodX kap b s r
  · have HG : Hid (goodX kap b s r = false) := hg
    have HR : Hid (putR kap cl b s r iv jv = (0, false, [], [], [], 1)) := putR_bad hg
    clear hg
    obtain ⟨w0, hw0⟩ : ∃ w0, w0 = ((w.alloc (.cells #[.int .i64 kap, .bool cl, .slice bo b.length bc, .slice so s.length sc, .slice ro r.length rc] 26)).alloc (.cells #[.int .i64 0, .bool false, .slice none 0 0, .slice none 0 0, .slice none 0 0] 26)) := ⟨_, rfl⟩
    have hB0 : Below w.heap.size w w0 := by rw [hw0]; exact Below.allocS (Below.allocS (Below.refl _ _) _) _
    have XA0 : Hid (Bx w0 (w.heap.size) [.int .i64 kap, .bool cl, .slice bo b.length bc, .slice so s.length sc, .slice ro r.length rc]) := by rw [hw0]; exact Bx.alloc (Bx.new [.int .i64 kap, .bool cl, .slice bo b.length bc, .slice so s.length sc, .slice ro r.length rc] _ rfl) _
    have XR0 : Hid (Bx w0 (w.heap.size + 1) [.int .i64 0, .bool false, .slice none 0 0, .slice none 0 0, .slice none 0 0]) := by rw [hw0]; exact Bx.new [.int .i64 0, .bool false, .slice none 0 0, .slice none 0 0, .slice none 0 0] _ (by simp)
    have H0 : Hid (w0 = ((w.alloc (.cells #[.int .i64 kap, .bool cl, .slice bo b.length bc, .slice so s.length sc, .slice ro r.length rc] 26)).alloc (.cells #[.int .i64 0, .bool false, .slice none 0 0, .slice none 0 0, .slice none 0 0] 26))) := hw0
    have hs0 : w.heap.size + 1 + 1 ≤ w0.heap.size := by rw [hw0]; simp
    clear hw0
    go_enter Try.func40, Try.ntmps40
    go_wp2_with fail
    rw [← H0.out]
    refine (specGood_is kap cl bo bc b so sc s ro rc r w0 false hlb hls hlr (hz.later hB0) HG.out).mono ?_
    rintro e w1 ⟨rfl, hb1⟩
    have hB1 := hB0.trans (hb1.mono hB0.size)
    have hs1 : w.heap.size + 1 + 1 ≤ w1.heap.size := Nat.le_trans hs0 hb1.size
    have hz1 : w0.heap.size ≤ w1.heap.size := hb1.size
    have XA1 := hid (XA0.out.later hb1)
    have XR1 := hid (XR0.out.later hb1)
    clear XA0 XR0
    clear hb1
    have a0 := XA1.out.c 0 rfl
    have af0 := XA1.out.f 0 rfl
    have a1 := XA1.out.c 1 rfl
    have af1 := XA1.out.f 1 rfl
    have a2 := XA1.out.c 2 rfl
    have af2 := XA1.out.f 2 rfl
    have a3 := XA1.out.c 3 rfl
    have af3 := XA1.out.f 3 rfl
    have a4 := XA1.out.c 4 rfl
    have af4 := XA1.out.f 4 rfl
    have az := XA1.out.size
    have r0 := XR1.out.c 0 rfl
    have rf0 := XR1.out.f 0 rfl
    have r1 := XR1.out.c 1 rfl
    have rf1 := XR1.out.f 1 rfl
    have r2 := XR1.out.c 2 rfl
    have rf2 := XR1.out.f 2 rfl
    have r3 := XR1.out.c 3 rfl
    have rf3 := XR1.out.f 3 rfl
    have r4 := XR1.out.c 4 rfl
    have rf4 := XR1.out.f 4 rfl
    have rz := XR1.out.size
    go_wp2
    refine bodyPost_ret (v := .tuple #[.agg #[.int .i64 0, .bool false, .slice none 0 0, .slice none 0 0, .slice none 0 0], .int .i64 1]) (by simp [results, Try.results40, go_sem, r0, r1, r2, r3, r4]) rfl ?_
    rw [HR.out]
    exact ⟨⟨_, _, _, rfl, wBox_nil _ _⟩, (((((hB1.setCell (p := ⟨w.heap.size + 1, 0, none⟩) (by dsimp only; omega) _).setCell (p := ⟨w.heap.size + 1, 1, none⟩) (by dsimp only; omega) _).setCell (p := ⟨w.heap.size + 1, 2, none⟩) (by dsimp only; omega) _).setCell (p := ⟨w.heap.size + 1, 3, none⟩) (by dsimp only; omega) _).setCell (p := ⟨w.heap.size + 1, 4, none⟩) (by dsimp only; omega) _)⟩
  have HG : Hid (goodX kap b s r = true) := hg
  have hq1 : s.length + r.length ≤ 1048576 := by have := goodX_good hg; omega
  obtain ⟨q, eq⟩ : ∃ q, idsOf s ++ idsOf r = q := ⟨_, rfl⟩
  have HQ : Hid (idsOf s ++ idsOf r = q) := eq
  have hq2 : q.length ≤ 1048576 := by rw [← eq, List.length_append, idsOf_len, idsOf_len]; exact hq1
  cases cl
  · cases hh : hasB q iv
    · by_cases hf : (s.length : Int) + r.length = kap
      · have hrb : refB kap false s r iv = 3 := by rw [refB, if_neg (by simp), eq, if_neg (by rw [hh]; simp), if_pos hf]
        have HR : Hid (putR kap false b s r iv jv = (kap, false, b, s, r, 3)) := by rw [Hid, putR, if_pos hg, hrb]; rw [if_neg (by decide)]
        have hf' : ((s.length : Int) + (r.length : Int) == kap) = true := by simpa using hf
        have HB : Hid (hasB q iv = false) := hh
        clear hg hh eq hf hrb
        obtain ⟨w0, hw0⟩ : ∃ w0, w0 = ((w.alloc (.cells #[.int .i64 kap, .bool false, .slice bo b.length bc, .slice so s.length sc, .slice ro r.length rc] 26)).alloc (.cells #[.int .i64 0, .bool false, .slice none 0 0, .slice none 0 0, .slice none 0 0] 26)) := ⟨_, rfl⟩
        have hB0 : Below w.heap.size w w0 := by rw [hw0]; exact Below.allocS (Below.allocS (Below.refl _ _) _) _
        have XA0 : Hid (Bx w0 (w.heap.size) [.int .i64 kap, .bool false, .slice bo b.length bc, .slice so s.length sc, .slice ro r.length rc]) := by rw [hw0]; exact Bx.alloc (Bx.new [.int .i64 kap, .bool false, .slice bo b.length bc, .slice so s.length sc, .slice ro r.length rc] _ rfl) _
        have XR0 : Hid (Bx w0 (w.heap.size + 1) [.int .i64 0, .bool false, .slice none 0 0, .slice none 0 0, .slice none 0 0]) := by rw [hw0]; exact Bx.new [.int .i64 0, .bool false, .slice none 0 0, .slice none 0 0, .slice none 0 0] _ (by simp)
        have H0 : Hid (w0 = ((w.alloc (.cells #[.int .i64 kap, .bool false, .slice bo b.length bc, .slice so s.length sc, .slice ro r.length rc] 26)).alloc (.cells #[.int .i64 0, .bool false, .slice none 0 0, .slice none 0 0, .slice none 0 0] 26))) := hw0
        have hs0 : w.heap.size + 1 + 1 ≤ w0.heap.size := by rw [hw0]; simp
        clear hw0
        go_enter Try.func40, Try.ntmps40
        go_wp2_with fail
        rw [← H0.out]
        refine (specGood_is kap false bo bc b so sc s ro rc r w0 true hlb hls hlr (hz.later hB0) HG.out).mono ?_
        rintro e w1 ⟨rfl, hb1⟩
        have hB1 := hB0.trans (hb1.mono hB0.size)
        have hs1 : w.heap.size + 1 + 1 ≤ w1.heap.size := Nat.le_trans hs0 hb1.size
        have hz1 : w0.heap.size ≤ w1.heap.size := hb1.size
        have XA1 := hid (XA0.out.later hb1)
        have XR1 := hid (XR0.out.later hb1)
        clear XA0 XR0
        clear hb1
        have a0 := XA1.out.c 0 rfl
        have af0 := XA1.out.f 0 rfl
        have a1 := XA1.out.c 1 rfl
        have af1 := XA1.out.f 1 rfl
        have a2 := XA1.out.c 2 rfl
        have af2 := XA1.out.f 2 rfl
        have a3 := XA1.out.c 3 rfl
        have af3 := XA1.out.f 3 rfl
        have a4 := XA1.out.c 4 rfl
        have af4 := XA1.out.f 4 rfl
        have az := XA1.out.size
        have r0 := XR1.out.c 0 rfl
        have rf0 := XR1.out.f 0 rfl
        have r1 := XR1.out.c 1 rfl
        have rf1 := XR1.out.f 1 rfl
        have r2 := XR1.out.c 2 rfl
        have rf2 := XR1.out.f 2 rfl
        have r3 := XR1.out.c 3 rfl
        have rf3 := XR1.out.f 3 rfl
        have r4 := XR1.out.c 4 rfl
        have rf4 := XR1.out.f 4 rfl
        have rz := XR1.out.size
        go_wp2_with fail
        clear a0 af0 a1 af1 a2 af2 a3 af3 a4 af4 az r0 rf0 r1 rf1 r2 rf2 r3 rf3 r4 rf4 rz
        refine (ownBox_any kap false bo bc b so sc s ro rc r w1 hlb hls hlr (hz.later hB1) hwf).mono ?_
        rintro e w2 ⟨⟨gb, bc1, gs, sc1, gr, rc1, rfl, hF⟩, hb2⟩
        have hB2 := hB1.trans (hb2.mono hB1.size)
        have hs2 : w.heap.size + 1 + 1 ≤ w2.heap.size := Nat.le_trans hs1 hb2.size
        have hz2 : w1.heap.size ≤ w2.heap.size := hb2.size
        have XA2 := hid (XA1.out.later hb2)
        have XR2 := hid (XR1.out.later hb2)
        clear XA1 XR1
        have F2 := hid (hF)
        clear hb2 hF
        have a0 := XA2.out.c 0 rfl
        have af0 := XA2.out.f 0 rfl
        have a1 := XA2.out.c 1 rfl
        have af1 := XA2.out.f 1 rfl
        have a2 := XA2.out.c 2 rfl
        have af2 := XA2.out.f 2 rfl
        have a3 := XA2.out.c 3 rfl
        have af3 := XA2.out.f 3 rfl
        have a4 := XA2.out.c 4 rfl
        have af4 := XA2.out.f 4 rfl
        have az := XA2.out.size
        have r0 := XR2.out.c 0 rfl
        have rf0 := XR2.out.f 0 rfl
        have r1 := XR2.out.c 1 rfl
        have rf1 := XR2.out.f 1 rfl
        have r2 := XR2.out.c 2 rfl
        have rf2 := XR2.out.f 2 rfl
        have r3 := XR2.out.c 3 rfl
        have rf3 := XR2.out.f 3 rfl
        have r4 := XR2.out.c 4 rfl
        have rf4 := XR2.out.f 4 rfl
        have rz := XR2.out.size
        go_upto_region 4 with fail
        clear a0 af0 a1 af1 a2 af2 a3 af3 a4 af4 az r0 rf0 r1 rf1 r2 rf2 r3 rf3 r4 rf4 rz
        obtain ⟨w3, hV⟩ : ∃ V, V = (((((w2.setCell ⟨w.heap.size, 0, none⟩ (.int .i64 kap)).setCell ⟨w.heap.size, 1, none⟩ (.bool false)).setCell ⟨w.heap.size, 2, none⟩ (.slice (some ⟨gb, 0, none⟩) b.length bc1)).setCell ⟨w.heap.size, 3, none⟩ (.slice (some ⟨gs, 0, none⟩) s.length sc1)).setCell ⟨w.heap.size, 4, none⟩ (.slice (some ⟨gr, 0, none⟩) r.length rc1)) := ⟨_, rfl⟩
        have hz3 : w2.heap.size ≤ w3.heap.size := by rw [hV]; simp [World.setCell]
        have hs3 : w.heap.size + 1 + 1 ≤ w3.heap.size := Nat.le_trans hs2 hz3
        have hB3 : Below w.heap.size w w3 := by rw [hV]; exact (((((hB2.setCell (p := ⟨w.heap.size, 0, none⟩) (by dsimp only; omega) _).setCell (p := ⟨w.heap.size, 1, none⟩) (by dsimp only; omega) _).setCell (p := ⟨w.heap.size, 2, none⟩) (by dsimp only; omega) _).setCell (p := ⟨w.heap.size, 3, none⟩) (by dsimp only; omega) _).setCell (p := ⟨w.heap.size, 4, none⟩) (by dsimp only; omega) _)
        have XA3 := hid ((((((XA2.out.set 0 (.int .i64 kap)).set 1 (.bool false)).set 2 (.slice (some ⟨gb, 0, none⟩) b.length bc1)).set 3 (.slice (some ⟨gs, 0, none⟩) s.length sc1)).set 4 (.slice (some ⟨gr, 0, none⟩) r.length rc1)))
        rw [← hV] at XA3
        have XR3 := hid ((((((XR2.out.other (a := ⟨w.heap.size, 0, none⟩) (by dsimp only; omega) (.int .i64 kap)).other (a := ⟨w.heap.size, 1, none⟩) (by dsimp only; omega) (.bool false)).other (a := ⟨w.heap.size, 2, none⟩) (by dsimp only; omega) (.slice (some ⟨gb, 0, none⟩) b.length bc1)).other (a := ⟨w.heap.size, 3, none⟩) (by dsimp only; omega) (.slice (some ⟨gs, 0, none⟩) s.length sc1)).other (a := ⟨w.heap.size, 4, none⟩) (by dsimp only; omega) (.slice (some ⟨gr, 0, none⟩) r.length rc1)))
        rw [← hV] at XR3
        have F3 := hid ((((((F2.out.setBelow (a := ⟨w.heap.size, 0, none⟩) (by dsimp only; omega) (.int .i64 kap)).setBelow (a := ⟨w.heap.size, 1, none⟩) (by dsimp only; omega) (.bool false)).setBelow (a := ⟨w.heap.size, 2, none⟩) (by dsimp only; omega) (.slice (some ⟨gb, 0, none⟩) b.length bc1)).setBelow (a := ⟨w.heap.size, 3, none⟩) (by dsimp only; omega) (.slice (some ⟨gs, 0, none⟩) s.length sc1)).setBelow (a := ⟨w.heap.size, 4, none⟩) (by dsimp only; omega) (.slice (some ⟨gr, 0, none⟩) r.length rc1)))
        rw [← hV] at F3
        have H3 : Hid (w3 = (((((w2.setCell ⟨w.heap.size, 0, none⟩ (.int .i64 kap)).setCell ⟨w.heap.size, 1, none⟩ (.bool false)).setCell ⟨w.heap.size, 2, none⟩ (.slice (some ⟨gb, 0, none⟩) b.length bc1)).setCell ⟨w.heap.size, 3, none⟩ (.slice (some ⟨gs, 0, none⟩) s.length sc1)).setCell ⟨w.heap.size, 4, none⟩ (.slice (some ⟨gr, 0, none⟩) r.length rc1))) := hV
        clear hV XA2 XR2 F2
        rw [← H3.out]
        clear H3
        have a0 := XA3.out.c 0 rfl
        have af0 := XA3.out.f 0 rfl
        have a1 := XA3.out.c 1 rfl
        have af1 := XA3.out.f 1 rfl
        have a2 := XA3.out.c 2 rfl
        have af2 := XA3.out.f 2 rfl
        have a3 := XA3.out.c 3 rfl
        have af3 := XA3.out.f 3 rfl
        have a4 := XA3.out.c 4 rfl
        have af4 := XA3.out.f 4 rfl
        have az := XA3.out.size
        have r0 := XR3.out.c 0 rfl
        have rf0 := XR3.out.f 0 rfl
        have r1 := XR3.out.c 1 rfl
        have rf1 := XR3.out.f 1 rfl
        have r2 := XR3.out.c 2 rfl
        have rf2 := XR3.out.f 2 rfl
        have r3 := XR3.out.c 3 rfl
        have rf3 := XR3.out.f 3 rfl
        have r4 := XR3.out.c 4 rfl
        have rf4 := XR3.out.f 4 rfl
        have rz := XR3.out.size
        go_wp2_with fail
        clear a0 af0 a1 af1 a2 af2 a3 af3 a4 af4 az r0 rf0 r1 rf1 r2 rf2 r3 rf3 r4 rf4 rz
        refine (l6Ids_as kap false (some ⟨gb, 0, none⟩) bc1 b (some ⟨gs, 0, none⟩) sc1 s (some ⟨gr, 0, none⟩) rc1 r w3 hlb hls hlr (OBox.in F3.out) q HQ.out).mono ?_
        rintro e w4 ⟨⟨qo, qc, rfl, hI⟩, hb4⟩
        have hB4 := hB3.trans (hb4.mono hB3.size)
        have hs4 : w.heap.size + 1 + 1 ≤ w4.heap.size := Nat.le_trans hs3 hb4.size
        have hz4 : w3.heap.size ≤ w4.heap.size := hb4.size
        have XA4 := hid (XA3.out.later hb4)
        have XR4 := hid (XR3.out.later hb4)
        have F4 := hid (F3.out.below hb4)
        clear XA3 XR3 F3
        have I4 := hid (hI)
        clear hb4 hI
        have a0 := XA4.out.c 0 rfl
        have af0 := XA4.out.f 0 rfl
        have a1 := XA4.out.c 1 rfl
        have af1 := XA4.out.f 1 rfl
        have a2 := XA4.out.c 2 rfl
        have af2 := XA4.out.f 2 rfl
        have a3 := XA4.out.c 3 rfl
        have af3 := XA4.out.f 3 rfl
        have a4 := XA4.out.c 4 rfl
        have af4 := XA4.out.f 4 rfl
        have az := XA4.out.size
        have r0 := XR4.out.c 0 rfl
        have rf0 := XR4.out.f 0 rfl
        have r1 := XR4.out.c 1 rfl
        have rf1 := XR4.out.f 1 rfl
        have r2 := XR4.out.c 2 rfl
        have rf2 := XR4.out.f 2 rfl
        have r3 := XR4.out.c 3 rfl
        have rf3 := XR4.out.f 3 rfl
        have r4 := XR4.out.c 4 rfl
        have rf4 := XR4.out.f 4 rfl
        have rz := XR4.out.size
        go_wp2_with fail
        clear a0 af0 a1 af1 a2 af2 a3 af3 a4 af4 az r0 rf0 r1 rf1 r2 rf2 r3 rf3 r4 rf4 rz
        refine (l1Has_is _ qo qc q iv w4 false hq2 I4.out.in HB.out).mono ?_
        rintro e w5 ⟨rfl, hw5⟩
        rw [hw5]
        clear hw5 w5
        have a0 := XA4.out.c 0 rfl
        have af0 := XA4.out.f 0 rfl
        have a1 := XA4.out.c 1 rfl
        have af1 := XA4.out.f 1 rfl
        have a2 := XA4.out.c 2 rfl
        have af2 := XA4.out.f 2 rfl
        have a3 := XA4.out.c 3 rfl
        have af3 := XA4.out.f 3 rfl
        have a4 := XA4.out.c 4 rfl
        have af4 := XA4.out.f 4 rfl
        have az := XA4.out.size
        have r0 := XR4.out.c 0 rfl
        have rf0 := XR4.out.f 0 rfl
        have r1 := XR4.out.c 1 rfl
        have rf1 := XR4.out.f 1 rfl
        have r2 := XR4.out.c 2 rfl
        have rf2 := XR4.out.f 2 rfl
        have r3 := XR4.out.c 3 rfl
        have rf3 := XR4.out.f 3 rfl
        have r4 := XR4.out.c 4 rfl
        have rf4 := XR4.out.f 4 rfl
        have rz := XR4.out.size
        go_wp2
        refine bodyPost_ret (v := .tuple #[.agg #[.int .i64 kap, .bool false, .slice (some ⟨gb, 0, none⟩) b.length bc1, .slice (some ⟨gs, 0, none⟩) s.length sc1, .slice (some ⟨gr, 0, none⟩) r.length rc1], .int .i64 3]) (by simp [results, Try.results40, go_sem, r0, r1, r2, r3, r4]) rfl ?_
        rw [HR.out]
        exact ⟨⟨_, _, _, rfl, (OBox.w (((((F4.out.setBelow (a := ⟨w.heap.size + 1, 0, none⟩) (by dsimp only; omega) _).setBelow (a := ⟨w.heap.size + 1, 1, none⟩) (by dsimp only; omega) _).setBelow (a := ⟨w.heap.size + 1, 2, none⟩) (by dsimp only; omega) _).setBelow (a := ⟨w.heap.size + 1, 3, none⟩) (by dsimp only; omega) _).setBelow (a := ⟨w.heap.size + 1, 4, none⟩) (by dsimp only; omega) _)).low (by omega)⟩, (((((hB4.setCell (p := ⟨w.heap.size + 1, 0, none⟩) (by dsimp only; omega) _).setCell (p := ⟨w.heap.size + 1, 1, none⟩) (by dsimp only; omega) _).setCell (p := ⟨w.heap.size + 1, 2, none⟩) (by dsimp only; omega) _).setCell (p := ⟨w.heap.size + 1, 3, none⟩) (by dsimp only; omega) _).setCell (p := ⟨w.heap.size + 1, 4, none⟩) (by dsimp only; omega) _)⟩
      · have hrb : refB kap false s r iv = 0 := by rw [refB, if_neg (by simp), eq, if_neg (by rw [hh]; simp), if_neg hf]
        have HR : Hid (putR kap false b s r iv jv = (kap, false, b, s ++ [(iv, jv, 0)], r, 0)) := by rw [Hid, putR, if_pos hg, hrb]; rw [if_pos rfl]
        have hf' : ((s.length : Int) + (r.length : Int) == kap) = false := by simpa using hf
        have HB : Hid (hasB q iv = false) := hh
        clear hg hh eq hf hrb
        obtain ⟨w0, hw0⟩ : ∃ w0, w0 = ((w.alloc (.cells #[.int .i64 kap, .bool false, .slice bo b.length bc, .slice so s.length sc, .slice ro r.length rc] 26)).alloc (.cells #[.int .i64 0, .bool false, .slice none 0 0, .slice none 0 0, .slice none 0 0] 26)) := ⟨_, rfl⟩
        have hB0 : Below w.heap.size w w0 := by rw [hw0]; exact Below.allocS (Below.allocS (Below.refl _ _) _) _
        have XA0 : Hid (Bx w0 (w.heap.size) [.int .i64 kap, .bool false, .slice bo b.length bc, .slice so s.length sc, .slice ro r.length rc]) := by rw [hw0]; exact Bx.alloc (Bx.new [.int .i64 kap, .bool false, .slice bo b.length bc, .slice so s.length sc, .slice ro r.length rc] _ rfl) _
        have XR0 : Hid (Bx w0 (w.heap.size + 1) [.int .i64 0, .bool false, .slice none 0 0, .slice none 0 0, .slice none 0 0]) := by rw [hw0]; exact Bx.new [.int .i64 0, .bool false, .slice none 0 0, .slice none 0 0, .slice none 0 0] _ (by simp)
        have H0 : Hid (w0 = ((w.alloc (.cells #[.int .i64 kap, .bool false, .slice bo b.length bc, .slice so s.length sc, .slice ro r.length rc] 26)).alloc (.cells #[.int .i64 0, .bool false, .slice none 0 0, .slice none 0 0, .slice none 0 0] 26))) := hw0
        have hs0 : w.heap.size + 1 + 1 ≤ w0.heap.size := by rw [hw0]; simp
        clear hw0
        go_enter Try.func40, Try.ntmps40
        go_wp2_with fail
        rw [← H0.out]
        refine (specGood_is kap false bo bc b so sc s ro rc r w0 true hlb hls hlr (hz.later hB0) HG.out).mono ?_
        rintro e w1 ⟨rfl, hb1⟩
        have hB1 := hB0.trans (hb1.mono hB0.size)
        have hs1 : w.heap.size + 1 + 1 ≤ w1.heap.size := Nat.le_trans hs0 hb1.size
        have hz1 : w0.heap.size ≤ w1.heap.size := hb1.size
        have XA1 := hid (XA0.out.later hb1)
        have XR1 := hid (XR0.out.later hb1)
        clear XA0 XR0
        clear hb1
        have a0 := XA1.out.c 0 rfl
        have af0 := XA1.out.f 0 rfl
        have a1 := XA1.out.c 1 rfl
        have af1 := XA1.out.f 1 rfl
        have a2 := XA1.out.c 2 rfl
        have af2 := XA1.out.f 2 rfl
        have a3 := XA1.out.c 3 rfl
        have af3 := XA1.out.f 3 rfl
        have a4 := XA1.out.c 4 rfl
        have af4 := XA1.out.f 4 rfl
        have az := XA1.out.size
        have r0 := XR1.out.c 0 rfl
        have rf0 := XR1.out.f 0 rfl
        have r1 := XR1.out.c 1 rfl
        have rf1 := XR1.out.f 1 rfl
        have r2 := XR1.out.c 2 rfl
        have rf2 := XR1.out.f 2 rfl
        have r3 := XR1.out.c 3 rfl
        have rf3 := XR1.out.f 3 rfl
        have r4 := XR1.out.c 4 rfl
        have rf4 := XR1.out.f 4 rfl
        have rz := XR1.out.size
        go_wp2_with fail
        clear a0 af0 a1 af1 a2 af2 a3 af3 a4 af4 az r0 rf0 r1 rf1 r2 rf2 r3 rf3 r4 rf4 rz
        refine (ownBox_any kap false bo bc b so sc s ro rc r w1 hlb hls hlr (hz.later hB1) hwf).mono ?_
        rintro e w2 ⟨⟨gb, bc1, gs, sc1, gr, rc1, rfl, hF⟩, hb2⟩
        have hB2 := hB1.trans (hb2.mono hB1.size)
        have hs2 : w.heap.size + 1 + 1 ≤ w2.heap.size := Nat.le_trans hs1 hb2.size
        have hz2 : w1.heap.size ≤ w2.heap.size := hb2.size
        have XA2 := hid (XA1.out.later hb2)
        have XR2 := hid (XR1.out.later hb2)
        clear XA1 XR1
        have F2 := hid (hF)
        clear hb2 hF
        have a0 := XA2.out.c 0 rfl
        have af0 := XA2.out.f 0 rfl
        have a1 := XA2.out.c 1 rfl
        have af1 := XA2.out.f 1 rfl
        have a2 := XA2.out.c 2 rfl
        have af2 := XA2.out.f 2 rfl
        have a3 := XA2.out.c 3 rfl
        have af3 := XA2.out.f 3 rfl
        have a4 := XA2.out.c 4 rfl
        have af4 := XA2.out.f 4 rfl
        have az := XA2.out.size
        have r0 := XR2.out.c 0 rfl
        have rf0 := XR2.out.f 0 rfl
        have r1 := XR2.out.c 1 rfl
        have rf1 := XR2.out.f 1 rfl
        have r2 := XR2.out.c 2 rfl
        have rf2 := XR2.out.f 2 rfl
        have r3 := XR2.out.c 3 rfl
        have rf3 := XR2.out.f 3 rfl
        have r4 := XR2.out.c 4 rfl
        have rf4 := XR2.out.f 4 rfl
        have rz := XR2.out.size
        go_upto_region 4 with fail
        clear a0 af0 a1 af1 a2 af2 a3 af3 a4 af4 az r0 rf0 r1 rf1 r2 rf2 r3 rf3 r4 rf4 rz
        obtain ⟨w3, hV⟩ : ∃ V, V = (((((w2.setCell ⟨w.heap.size, 0, none⟩ (.int .i64 kap)).setCell ⟨w.heap.size, 1, none⟩ (.bool false)).setCell ⟨w.heap.size, 2, none⟩ (.slice (some ⟨gb, 0, none⟩) b.length bc1)).setCell ⟨w.heap.size, 3, none⟩ (.slice (some ⟨gs, 0, none⟩) s.length sc1)).setCell ⟨w.heap.size, 4, none⟩ (.slice (some ⟨gr, 0, none⟩) r.length rc1)) := ⟨_, rfl⟩
        have hz3 : w2.heap.size ≤ w3.heap.size := by rw [hV]; simp [World.setCell]
        have hs3 : w.heap.size + 1 + 1 ≤ w3.heap.size := Nat.le_trans hs2 hz3
        have hB3 : Below w.heap.size w w3 := by rw [hV]; exact (((((hB2.setCell (p := ⟨w.heap.size, 0, none⟩) (by dsimp only; omega) _).setCell (p := ⟨w.heap.size, 1, none⟩) (by dsimp only; omega) _).setCell (p := ⟨w.heap.size, 2, none⟩) (by dsimp only; omega) _).setCell (p := ⟨w.heap.size, 3, none⟩) (by dsimp only; omega) _).setCell (p := ⟨w.heap.size, 4, none⟩) (by dsimp only; omega) _)
        have XA3 := hid ((((((XA2.out.set 0 (.int .i64 kap)).set 1 (.bool false)).set 2 (.slice (some ⟨gb, 0, none⟩) b.length bc1)).set 3 (.slice (some ⟨gs, 0, none⟩) s.length sc1)).set 4 (.slice (some ⟨gr, 0, none⟩) r.length rc1)))
        rw [← hV] at XA3
        have XR3 := hid ((((((XR2.out.other (a := ⟨w.heap.size, 0, none⟩) (by dsimp only; omega) (.int .i64 kap)).other (a := ⟨w.heap.size, 1, none⟩) (by dsimp only; omega) (.bool false)).other (a := ⟨w.heap.size, 2, none⟩) (by dsimp only; omega) (.slice (some ⟨gb, 0, none⟩) b.length bc1)).other (a := ⟨w.heap.size, 3, none⟩) (by dsimp only; omega) (.slice (some ⟨gs, 0, none⟩) s.length sc1)).other (a := ⟨w.heap.size, 4, none⟩) (by dsimp only; omega) (.slice (some ⟨gr, 0, none⟩) r.length rc1)))
        rw [← hV] at XR3
        have F3 := hid ((((((F2.out.setBelow (a := ⟨w.heap.size, 0, none⟩) (by dsimp only; omega) (.int .i64 kap)).setBelow (a := ⟨w.heap.size, 1, none⟩) (by dsimp only; omega) (.bool false)).setBelow (a := ⟨w.heap.size, 2, none⟩) (by dsimp only; omega) (.slice (some ⟨gb, 0, none⟩) b.length bc1)).setBelow (a := ⟨w.heap.size, 3, none⟩) (by dsimp only; omega) (.slice (some ⟨gs, 0, none⟩) s.length sc1)).setBelow (a := ⟨w.heap.size, 4, none⟩) (by dsimp only; omega) (.slice (some ⟨gr, 0, none⟩) r.length rc1)))
        rw [← hV] at F3
        have H3 : Hid (w3 = (((((w2.setCell ⟨w.heap.size, 0, none⟩ (.int .i64 kap)).setCell ⟨w.heap.size, 1, none⟩ (.bool false)).setCell ⟨w.heap.size, 2, none⟩ (.slice (some ⟨gb, 0, none⟩) b.length bc1)).setCell ⟨w.heap.size, 3, none⟩ (.slice (some ⟨gs, 0, none⟩) s.length sc1)).setCell ⟨w.heap.size, 4, none⟩ (.slice (some ⟨gr, 0, none⟩) r.length rc1))) := hV
        clear hV XA2 XR2 F2
        rw [← H3.out]
        clear H3
        have a0 := XA3.out.c 0 rfl
        have af0 := XA3.out.f 0 rfl
        have a1 := XA3.out.c 1 rfl
        have af1 := XA3.out.f 1 rfl
        have a2 := XA3.out.c 2 rfl
        have af2 := XA3.out.f 2 rfl
        have a3 := XA3.out.c 3 rfl
        have af3 := XA3.out.f 3 rfl
        have a4 := XA3.out.c 4 rfl
        have af4 := XA3.out.f 4 rfl
        have az := XA3.out.size
        have r0 := XR3.out.c 0 rfl
        have rf0 := XR3.out.f 0 rfl
        have r1 := XR3.out.c 1 rfl
        have rf1 := XR3.out.f 1 rfl
        have r2 := XR3.out.c 2 rfl
        have rf2 := XR3.out.f 2 rfl
        have r3 := XR3.out.c 3 rfl
        have rf3 := XR3.out.f 3 rfl
        have r4 := XR3.out.c 4 rfl
        have rf4 := XR3.out.f 4 rfl
        have rz := XR3.out.size
        go_wp2_with fail
        clear a0 af0 a1 af1 a2 af2 a3 af3 a4 af4 az r0 rf0 r1 rf1 r2 rf2 r3 rf3 r4 rf4 rz
        refine (l6Ids_as kap false (some ⟨gb, 0, none⟩) bc1 b (some ⟨gs, 0, none⟩) sc1 s (some ⟨gr, 0, none⟩) rc1 r w3 hlb hls hlr (OBox.in F3.out) q HQ.out).mono ?_
        rintro e w4 ⟨⟨qo, qc, rfl, hI⟩, hb4⟩
        have hB4 := hB3.trans (hb4.mono hB3.size)
        have hs4 : w.heap.size + 1 + 1 ≤ w4.heap.size := Nat.le_trans hs3 hb4.size
        have hz4 : w3.heap.size ≤ w4.heap.size := hb4.size
        have XA4 := hid (XA3.out.later hb4)
        have XR4 := hid (XR3.out.later hb4)
        have F4 := hid (F3.out.below hb4)
        clear XA3 XR3 F3
        have I4 := hid (hI)
        clear hb4 hI
        have a0 := XA4.out.c 0 rfl
        have af0 := XA4.out.f 0 rfl
        have a1 := XA4.out.c 1 rfl
        have af1 := XA4.out.f 1 rfl
        have a2 := XA4.out.c 2 rfl
        have af2 := XA4.out.f 2 rfl
        have a3 := XA4.out.c 3 rfl
        have af3 := XA4.out.f 3 rfl
        have a4 := XA4.out.c 4 rfl
        have af4 := XA4.out.f 4 rfl
        have az := XA4.out.size
        have r0 := XR4.out.c 0 rfl
        have rf0 := XR4.out.f 0 rfl
        have r1 := XR4.out.c 1 rfl
        have rf1 := XR4.out.f 1 rfl
        have r2 := XR4.out.c 2 rfl
        have rf2 := XR4.out.f 2 rfl
        have r3 := XR4.out.c 3 rfl
        have rf3 := XR4.out.f 3 rfl
        have r4 := XR4.out.c 4 rfl
        have rf4 := XR4.out.f 4 rfl
        have rz := XR4.out.size
        go_wp2_with fail
        clear a0 af0 a1 af1 a2 af2 a3 af3 a4 af4 az r0 rf0 r1 rf1 r2 rf2 r3 rf3 r4 rf4 rz
        refine (l1Has_is _ qo qc q iv w4 false hq2 I4.out.in HB.out).mono ?_
        rintro e w5 ⟨rfl, hw5⟩
        rw [hw5]
        clear hw5 w5
        have a0 := XA4.out.c 0 rfl
        have af0 := XA4.out.f 0 rfl
        have a1 := XA4.out.c 1 rfl
        have af1 := XA4.out.f 1 rfl
        have a2 := XA4.out.c 2 rfl
        have af2 := XA4.out.f 2 rfl
        have a3 := XA4.out.c 3 rfl
        have af3 := XA4.out.f 3 rfl
        have a4 := XA4.out.c 4 rfl
        have af4 := XA4.out.f 4 rfl
        have az := XA4.out.size
        have r0 := XR4.out.c 0 rfl
        have rf0 := XR4.out.f 0 rfl
        have r1 := XR4.out.c 1 rfl
        have rf1 := XR4.out.f 1 rfl
        have r2 := XR4.out.c 2 rfl
        have rf2 := XR4.out.f 2 rfl
        have r3 := XR4.out.c 3 rfl
        have rf3 := XR4.out.f 3 rfl
        have r4 := XR4.out.c 4 rfl
        have rf4 := XR4.out.f 4 rfl
        have rz := XR4.out.size
        go_upto_region 10 with fail
        clear a0 af0 a1 af1 a2 af2 a3 af3 a4 af4 az r0 rf0 r1 rf1 r2 rf2 r3 rf3 r4 rf4 rz
        have a0 := XA4.out.c 0 rfl
        have af0 := XA4.out.f 0 rfl
        have a1 := XA4.out.c 1 rfl
        have af1 := XA4.out.f 1 rfl
        have a2 := XA4.out.c 2 rfl
        have af2 := XA4.out.f 2 rfl
        have a3 := XA4.out.c 3 rfl
        have af3 := XA4.out.f 3 rfl
        have a4 := XA4.out.c 4 rfl
        have af4 := XA4.out.f 4 rfl
        have az := XA4.out.size
        have r0 := XR4.out.c 0 rfl
        have rf0 := XR4.out.f 0 rfl
        have r1 := XR4.out.c 1 rfl
        have rf1 := XR4.out.f 1 rfl
        have r2 := XR4.out.c 2 rfl
        have rf2 := XR4.out.f 2 rfl
        have r3 := XR4.out.c 3 rfl
        have rf3 := XR4.out.f 3 rfl
        have r4 := XR4.out.c 4 rfl
        have rf4 := XR4.out.f 4 rfl
        have rz := XR4.out.size
        have FA := hid (F4.out.below (below1 w4 (.cells #[.int .i64 iv, .int .i64 jv, .int .i64 0] 29)))
        have HN : Hid (kL.In (w4.heap.size + 1) (w4.alloc (.cells #[.int .i64 iv, .int .i64 jv, .int .i64 0] 29)) (some ⟨w4.heap.size, 0, none⟩) [(iv, jv, 0)]) := kL_one (t := (iv, jv, 0)) (by omega) (by simp) (by simp) (by simp)
        obtain ⟨zs, hzs⟩ : ∃ zs, zs = s ++ [(iv, jv, 0)] := ⟨_, rfl⟩
        have HZS : Hid (zs = s ++ [(iv, jv, 0)]) := hzs
        clear hzs
        have XAA := hid (XA4.out.alloc (.cells #[.int .i64 iv, .int .i64 jv, .int .i64 0] 29))
        have XAR := hid (XR4.out.alloc (.cells #[.int .i64 iv, .int .i64 jv, .int .i64 0] 29))
        have hBA : Below w.heap.size w (w4.alloc (.cells #[.int .i64 iv, .int .i64 jv, .int .i64 0] 29)) := Below.allocS hB4 _
        go_wp2_with (at_builtin; have hga := own_at F4.out.2.1; refine Kind.appO kL_ok (w4.alloc (.cells #[.int .i64 iv, .int .i64 jv, .int .i64 0] 29)) rfl (.tmp 37) (.tmp 41) rfl (w1.heap.size) gs s.length sc1 s rfl FA.out.2.1 (by simp <;> omega) (some ⟨w4.heap.size, 0, none⟩) [(iv, jv, 0)] 1 1 rfl rfl (by simp) _ HN.out (by simp <;> omega) zs HZS.out ?_; intro g' c' w5 hO hB hG hw; have hB5 : Below w.heap.size w w5 := hBA.trans (hB.mono (by omega)); have hz5 : w4.heap.size ≤ w5.heap.size := (by have := hB.size; simp at this; omega); have hs5 : w.heap.size + 1 + 1 ≤ w5.heap.size := (by omega); have XA5 := hid (XAA.out.grown hG (by omega)); have XR5 := hid (XAR.out.grown hG (by omega)); have F5 := hid (OBox.put1 FA.out hO hG hw); clear hO hB hG hw HN FA hBA hga XAA XA4 XAR XR4 a0 af0 a1 af1 a2 af2 a3 af3 a4 af4 az r0 rf0 r1 rf1 r2 rf2 r3 rf3 r4 rf4 rz; have a0 := XA5.out.c 0 rfl; have af0 := XA5.out.f 0 rfl; have a1 := XA5.out.c 1 rfl; have af1 := XA5.out.f 1 rfl; have a2 := XA5.out.c 2 rfl; have af2 := XA5.out.f 2 rfl; have a3 := XA5.out.c 3 rfl; have af3 := XA5.out.f 3 rfl; have a4 := XA5.out.c 4 rfl; have af4 := XA5.out.f 4 rfl; have az := XA5.out.size; have r0 := XR5.out.c 0 rfl; have rf0 := XR5.out.f 0 rfl; have r1 := XR5.out.c 1 rfl; have rf1 := XR5.out.f 1 rfl; have r2 := XR5.out.c 2 rfl; have rf2 := XR5.out.f 2 rfl; have r3 := XR5.out.c 3 rfl; have rf3 := XR5.out.f 3 rfl; have r4 := XR5.out.c 4 rfl; have rf4 := XR5.out.f 4 rfl; have rz := XR5.out.size)
        refine bodyPost_ret (v := .tuple #[.agg #[.int .i64 kap, .bool false, .slice (some ⟨gb, 0, none⟩) b.length bc1, (.slice (some ⟨g', 0, none⟩) zs.length c'), .slice (some ⟨gr, 0, none⟩) r.length rc1], .int .i64 0]) (by simp [results, Try.results40, go_sem, r0, r1, r2, r3, r4]) rfl ?_
        rw [HR.out, ← HZS.out]
        exact ⟨⟨_, _, _, rfl, (OBox.w ((((((F5.out.setBelow (a := ⟨w.heap.size, 3, none⟩) (by dsimp only; omega) _).setBelow (a := ⟨w.heap.size + 1, 0, none⟩) (by dsimp only; omega) _).setBelow (a := ⟨w.heap.size + 1, 1, none⟩) (by dsimp only; omega) _).setBelow (a := ⟨w.heap.size + 1, 2, none⟩) (by dsimp only; omega) _).setBelow (a := ⟨w.heap.size + 1, 3, none⟩) (by dsimp only; omega) _).setBelow (a := ⟨w.heap.size + 1, 4, none⟩) (by dsimp only; omega) _)).low (by omega)⟩, ((((((hB5.setCell (p := ⟨w.heap.size, 3, none⟩) (by dsimp only; omega) _).setCell (p := ⟨w.heap.size + 1, 0, none⟩) (by dsimp only; omega) _).setCell (p := ⟨w.heap.size + 1, 1, none⟩) (by dsimp only; omega) _).setCell (p := ⟨w.heap.size + 1, 2, none⟩) (by dsimp only; omega) _).setCell (p := ⟨w.heap.size + 1, 3, none⟩) (by dsimp only; omega) _).setCell (p := ⟨w.heap.size + 1, 4, none⟩) (by dsimp only; omega) _)⟩
    · have hrb : refB kap false s r iv = 5 := by rw [refB, if_neg (by simp), eq, if_pos hh]
      have HR : Hid (putR kap false b s r iv jv = (kap, false, b, s, r, 5)) := by rw [Hid, putR, if_pos hg, hrb]; rw [if_neg (by decide)]
      have HB : Hid (hasB q iv = true) := hh
      clear hg hh eq hrb
      obtain ⟨w0, hw0⟩ : ∃ w0, w0 = ((w.alloc (.cells #[.int .i64 kap, .bool false, .slice bo b.length bc, .slice so s.length sc, .slice ro r.length rc] 26)).alloc (.cells #[.int .i64 0, .bool false, .slice none 0 0, .slice none 0 0, .slice none 0 0] 26)) := ⟨_, rfl⟩
      have hB0 : Below w.heap.size w w0 := by rw [hw0]; exact Below.allocS (Below.allocS (Below.refl _ _) _) _
      have XA0 : Hid (Bx w0 (w.heap.size) [.int .i64 kap, .bool false, .slice bo b.length bc, .slice so s.length sc, .slice ro r.length rc]) := by rw [hw0]; exact Bx.alloc (Bx.new [.int .i64 kap, .bool false, .slice bo b.length bc, .slice so s.length sc, .slice ro r.length rc] _ rfl) _
      have XR0 : Hid (Bx w0 (w.heap.size + 1) [.int .i64 0, .bool false, .slice none 0 0, .slice none 0 0, .slice none 0 0]) := by rw [hw0]; exact Bx.new [.int .i64 0, .bool false, .slice none 0 0, .slice none 0 0, .slice none 0 0] _ (by simp)
      have H0 : Hid (w0 = ((w.alloc (.cells #[.int .i64 kap, .bool false, .slice bo b.length bc, .slice so s.length sc, .slice ro r.length rc] 26)).alloc (.cells #[.int .i64 0, .bool false, .slice none 0 0, .slice none 0 0, .slice none 0 0] 26))) := hw0
      have hs0 : w.heap.size + 1 + 1 ≤ w0.heap.size := by rw [hw0]; simp
      clear hw0
      go_enter Try.func40, Try.ntmps40
      go_wp2_with fail
      rw [← H0.out]
      refine (specGood_is kap false bo bc b so sc s ro rc r w0 true hlb hls hlr (hz.later hB0) HG.out).mono ?_
      rintro e w1 ⟨rfl, hb1⟩
      have hB1 := hB0.trans (hb1.mono hB0.size)
      have hs1 : w.heap.size + 1 + 1 ≤ w1.heap.size := Nat.le_trans hs0 hb1.size
      have hz1 : w0.heap.size ≤ w1.heap.size := hb1.size
      have XA1 := hid (XA0.out.later hb1)
      have XR1 := hid (XR0.out.later hb1)
      clear XA0 XR0
      clear hb1
      have a0 := XA1.out.c 0 rfl
      have af0 := XA1.out.f 0 rfl
      have a1 := XA1.out.c 1 rfl
      have af1 := XA1.out.f 1 rfl
      have a2 := XA1.out.c 2 rfl
      have af2 := XA1.out.f 2 rfl
      have a3 := XA1.out.c 3 rfl
      have af3 := XA1.out.f 3 rfl
      have a4 := XA1.out.c 4 rfl
      have af4 := XA1.out.f 4 rfl
      have az := XA1.out.size
      have r0 := XR1.out.c 0 rfl
      have rf0 := XR1.out.f 0 rfl
      have r1 := XR1.out.c 1 rfl
      have rf1 := XR1.out.f 1 rfl
      have r2 := XR1.out.c 2 rfl
      have rf2 := XR1.out.f 2 rfl
      have r3 := XR1.out.c 3 rfl
      have rf3 := XR1.out.f 3 rfl
      have r4 := XR1.out.c 4 rfl
      have rf4 := XR1.out.f 4 rfl
      have rz := XR1.out.size
      go_wp2_with fail
      clear a0 af0 a1 af1 a2 af2 a3 af3 a4 af4 az r0 rf0 r1 rf1 r2 rf2 r3 rf3 r4 rf4 rz
      refine (ownBox_any kap false bo bc b so sc s ro rc r w1 hlb hls hlr (hz.later hB1) hwf).mono ?_
      rintro e w2 ⟨⟨gb, bc1, gs, sc1, gr, rc1, rfl, hF⟩, hb2⟩
      have hB2 := hB1.trans (hb2.mono hB1.size)
      have hs2 : w.heap.size + 1 + 1 ≤ w2.heap.size := Nat.le_trans hs1 hb2.size
      have hz2 : w1.heap.size ≤ w2.heap.size := hb2.size
      have XA2 := hid (XA1.out.later hb2)
      have XR2 := hid (XR1.out.later hb2)
      clear XA1 XR1
      have F2 := hid (hF)
      clear hb2 hF
      have a0 := XA2.out.c 0 rfl
      have af0 := XA2.out.f 0 rfl
      have a1 := XA2.out.c 1 rfl
      have af1 := XA2.out.f 1 rfl
      have a2 := XA2.out.c 2 rfl
      have af2 := XA2.out.f 2 rfl
      have a3 := XA2.out.c 3 rfl
      have af3 := XA2.out.f 3 rfl
      have a4 := XA2.out.c 4 rfl
      have af4 := XA2.out.f 4 rfl
      have az := XA2.out.size
      have r0 := XR2.out.c 0 rfl
      have rf0 := XR2.out.f 0 rfl
      have r1 := XR2.out.c 1 rfl
      have rf1 := XR2.out.f 1 rfl
      have r2 := XR2.out.c 2 rfl
      have rf2 := XR2.out.f 2 rfl
      have r3 := XR2.out.c 3 rfl
      have rf3 := XR2.out.f 3 rfl
      have r4 := XR2.out.c 4 rfl
      have rf4 := XR2.out.f 4 rfl
      have rz := XR2.out.size
      go_upto_region 4 with fail
      clear a0 af0 a1 af1 a2 af2 a3 af3 a4 af4 az r0 rf0 r1 rf1 r2 rf2 r3 rf3 r4 rf4 rz
      obtain ⟨w3, hV⟩ : ∃ V, V = (((((w2.setCell ⟨w.heap.size, 0, none⟩ (.int .i64 kap)).setCell ⟨w.heap.size, 1, none⟩ (.bool false)).setCell ⟨w.heap.size, 2, none⟩ (.slice (some ⟨gb, 0, none⟩) b.length bc1)).setCell ⟨w.heap.size, 3, none⟩ (.slice (some ⟨gs, 0, none⟩) s.length sc1)).setCell ⟨w.heap.size, 4, none⟩ (.slice (some ⟨gr, 0, none⟩) r.length rc1)) := ⟨_, rfl⟩
      have hz3 : w2.heap.size ≤ w3.heap.size := by rw [hV]; simp [World.setCell]
      have hs3 : w.heap.size + 1 + 1 ≤ w3.heap.size := Nat.le_trans hs2 hz3
      have hB3 : Below w.heap.size w w3 := by rw [hV]; exact (((((hB2.setCell (p := ⟨w.heap.size, 0, none⟩) (by dsimp only; omega) _).setCell (p := ⟨w.heap.size, 1, none⟩) (by dsimp only; omega) _).setCell (p := ⟨w.heap.size, 2, none⟩) (by dsimp only; omega) _).setCell (p := ⟨w.heap.size, 3, none⟩) (by dsimp only; omega) _).setCell (p := ⟨w.heap.size, 4, none⟩) (by dsimp only; omega) _)
      have XA3 := hid ((((((XA2.out.set 0 (.int .i64 kap)).set 1 (.bool false)).set 2 (.slice (some ⟨gb, 0, none⟩) b.length bc1)).set 3 (.slice (some ⟨gs, 0, none⟩) s.length sc1)).set 4 (.slice (some ⟨gr, 0, none⟩) r.length rc1)))
      rw [← hV] at XA3
      have XR3 := hid ((((((XR2.out.other (a := ⟨w.heap.size, 0, none⟩) (by dsimp only; omega) (.int .i64 kap)).other (a := ⟨w.heap.size, 1, none⟩) (by dsimp only; omega) (.bool false)).other (a := ⟨w.heap.size, 2, none⟩) (by dsimp only; omega) (.slice (some ⟨gb, 0, none⟩) b.length bc1)).other (a := ⟨w.heap.size, 3, none⟩) (by dsimp only; omega) (.slice (some ⟨gs, 0, none⟩) s.length sc1)).other (a := ⟨w.heap.size, 4, none⟩) (by dsimp only; omega) (.slice (some ⟨gr, 0, none⟩) r.length rc1)))
      rw [← hV] at XR3
      have F3 := hid ((((((F2.out.setBelow (a := ⟨w.heap.size, 0, none⟩) (by dsimp only; omega) (.int .i64 kap)).setBelow (a := ⟨w.heap.size, 1, none⟩) (by dsimp only; omega) (.bool false)).setBelow (a := ⟨w.heap.size, 2, none⟩) (by dsimp only; omega) (.slice (some ⟨gb, 0, none⟩) b.length bc1)).setBelow (a := ⟨w.heap.size, 3, none⟩) (by dsimp only; omega) (.slice (some ⟨gs, 0, none⟩) s.length sc1)).setBelow (a := ⟨w.heap.size, 4, none⟩) (by dsimp only; omega) (.slice (some ⟨gr, 0, none⟩) r.length rc1)))
      rw [← hV] at F3
      have H3 : Hid (w3 = (((((w2.setCell ⟨w.heap.size, 0, none⟩ (.int .i64 kap)).setCell ⟨w.heap.size, 1, none⟩ (.bool false)).setCell ⟨w.heap.size, 2, none⟩ (.slice (some ⟨gb, 0, none⟩) b.length bc1)).setCell ⟨w.heap.size, 3, none⟩ (.slice (some ⟨gs, 0, none⟩) s.length sc1)).setCell ⟨w.heap.size, 4, none⟩ (.slice (some ⟨gr, 0, none⟩) r.length rc1))) := hV
      clear hV XA2 XR2 F2
      rw [← H3.out]
      clear H3
      have a0 := XA3.out.c 0 rfl
      have af0 := XA3.out.f 0 rfl
      have a1 := XA3.out.c 1 rfl
      have af1 := XA3.out.f 1 rfl
      have a2 := XA3.out.c 2 rfl
      have af2 := XA3.out.f 2 rfl
      have a3 := XA3.out.c 3 rfl
      have af3 := XA3.out.f 3 rfl
      have a4 := XA3.out.c 4 rfl
      have af4 := XA3.out.f 4 rfl
      have az := XA3.out.size
      have r0 := XR3.out.c 0 rfl
      have rf0 := XR3.out.f 0 rfl
      have r1 := XR3.out.c 1 rfl
      have rf1 := XR3.out.f 1 rfl
      have r2 := XR3.out.c 2 rfl
      have rf2 := XR3.out.f 2 rfl
      have r3 := XR3.out.c 3 rfl
      have rf3 := XR3.out.f 3 rfl
      have r4 := XR3.out.c 4 rfl
      have rf4 := XR3.out.f 4 rfl
      have rz := XR3.out.size
      go_wp2_with fail
      clear a0 af0 a1 af1 a2 af2 a3 af3 a4 af4 az r0 rf0 r1 rf1 r2 rf2 r3 rf3 r4 rf4 rz
      refine (l6Ids_as kap false (some ⟨gb, 0, none⟩) bc1 b (some ⟨gs, 0, none⟩) sc1 s (some ⟨gr, 0, none⟩) rc1 r w3 hlb hls hlr (OBox.in F3.out) q HQ.out).mono ?_
      rintro e w4 ⟨⟨qo, qc, rfl, hI⟩, hb4⟩
      have hB4 := hB3.trans (hb4.mono hB3.size)
      have hs4 : w.heap.size + 1 + 1 ≤ w4.heap.size := Nat.le_trans hs3 hb4.size
      have hz4 : w3.heap.size ≤ w4.heap.size := hb4.size
      have XA4 := hid (XA3.out.later hb4)
      have XR4 := hid (XR3.out.later hb4)
      have F4 := hid (F3.out.below hb4)
      clear XA3 XR3 F3
      have I4 := hid (hI)
      clear hb4 hI
      have a0 := XA4.out.c 0 rfl
      have af0 := XA4.out.f 0 rfl
      have a1 := XA4.out.c 1 rfl
      have af1 := XA4.out.f 1 rfl
      have a2 := XA4.out.c 2 rfl
      have af2 := XA4.out.f 2 rfl
      have a3 := XA4.out.c 3 rfl
      have af3 := XA4.out.f 3 rfl
      have a4 := XA4.out.c 4 rfl
      have af4 := XA4.out.f 4 rfl
      have az := XA4.out.size
      have r0 := XR4.out.c 0 rfl
      have rf0 := XR4.out.f 0 rfl
      have r1 := XR4.out.c 1 rfl
      have rf1 := XR4.out.f 1 rfl
      have r2 := XR4.out.c 2 rfl
      have rf2 := XR4.out.f 2 rfl
      have r3 := XR4.out.c 3 rfl
      have rf3 := XR4.out.f 3 rfl
      have r4 := XR4.out.c 4 rfl
      have rf4 := XR4.out.f 4 rfl
      have rz := XR4.out.size
      go_wp2_with fail
      clear a0 af0 a1 af1 a2 af2 a3 af3 a4 af4 az r0 rf0 r1 rf1 r2 rf2 r3 rf3 r4 rf4 rz
      refine (l1Has_is _ qo qc q iv w4 true hq2 I4.out.in HB.out).mono ?_
      rintro e w5 ⟨rfl, hw5⟩
      rw [hw5]
      clear hw5 w5
      have a0 := XA4.out.c 0 rfl
      have af0 := XA4.out.f 0 rfl
      have a1 := XA4.out.c 1 rfl
      have af1 := XA4.out.f 1 rfl
      have a2 := XA4.out.c 2 rfl
      have af2 := XA4.out.f 2 rfl
      have a3 := XA4.out.c 3 rfl
      have af3 := XA4.out.f 3 rfl
      have a4 := XA4.out.c 4 rfl
      have af4 := XA4.out.f 4 rfl
      have az := XA4.out.size
      have r0 := XR4.out.c 0 rfl
      have rf0 := XR4.out.f 0 rfl
      have r1 := XR4.out.c 1 rfl
      have rf1 := XR4.out.f 1 rfl
      have r2 := XR4.out.c 2 rfl
      have rf2 := XR4.out.f 2 rfl
      have r3 := XR4.out.c 3 rfl
      have rf3 := XR4.out.f 3 rfl
      have r4 := XR4.out.c 4 rfl
      have rf4 := XR4.out.f 4 rfl
      have rz := XR4.out.size
      go_wp2
      refine bodyPost_ret (v := .tuple #[.agg #[.int .i64 kap, .bool false, .slice (some ⟨gb, 0, none⟩) b.length bc1, .slice (some ⟨gs, 0, none⟩) s.length sc1, .slice (some ⟨gr, 0, none⟩) r.length rc1], .int .i64 5]) (by simp [results, Try.results40, go_sem, r0, r1, r2, r3, r4]) rfl ?_
      rw [HR.out]
      exact ⟨⟨_, _, _, rfl, (OBox.w (((((F4.out.setBelow (a := ⟨w.heap.size + 1, 0, none⟩) (by dsimp only; omega) _).setBelow (a := ⟨w.heap.size + 1, 1, none⟩) (by dsimp only; omega) _).setBelow (a := ⟨w.heap.size + 1, 2, none⟩) (by dsimp only; omega) _).setBelow (a := ⟨w.heap.size + 1, 3, none⟩) (by dsimp only; omega) _).setBelow (a := ⟨w.heap.size + 1, 4, none⟩) (by dsimp only; omega) _)).low (by omega)⟩, (((((hB4.setCell (p := ⟨w.heap.size + 1, 0, none⟩) (by dsimp only; omega) _).setCell (p := ⟨w.heap.size + 1, 1, none⟩) (by dsimp only; omega) _).setCell (p := ⟨w.heap.size + 1, 2, none⟩) (by dsimp only; omega) _).setCell (p := ⟨w.heap.size + 1, 3, none⟩) (by dsimp only; omega) _).setCell (p := ⟨w.heap.size + 1, 4, none⟩) (by dsimp only; omega) _)⟩
  · have hrb : refB kap true s r iv = 2 := by rw [refB, if_pos rfl]
    have HR : Hid (putR kap true b s r iv jv = (kap, true, b, s, r, 2)) := by rw [Hid, putR, if_pos hg, hrb]; rw [if_neg (by decide)]
    clear hg eq hrb
    obtain ⟨w0, hw0⟩ : ∃ w0, w0 = ((w.alloc (.cells #[.int .i64 kap, .bool true, .slice bo b.length bc, .slice so s.length sc, .slice ro r.length rc] 26)).alloc (.cells #[.int .i64 0, .bool false, .slice none 0 0, .slice none 0 0, .slice none 0 0] 26)) := ⟨_, rfl⟩
    have hB0 : Below w.heap.size w w0 := by rw [hw0]; exact Below.allocS (Below.allocS (Below.refl _ _) _) _
    have XA0 : Hid (Bx w0 (w.heap.size) [.int .i64 kap, .bool true, .slice bo b.length bc, .slice so s.length sc, .slice ro r.length rc]) := by rw [hw0]; exact Bx.alloc (Bx.new [.int .i64 kap, .bool true, .slice bo b.length bc, .slice so s.length sc, .slice ro r.length rc] _ rfl) _
    have XR0 : Hid (Bx w0 (w.heap.size + 1) [.int .i64 0, .bool false, .slice none 0 0, .slice none 0 0, .slice none 0 0]) := by rw [hw0]; exact Bx.new [.int .i64 0, .bool false, .slice none 0 0, .slice none 0 0, .slice none 0 0] _ (by simp)
    have H0 : Hid (w0 = ((w.alloc (.cells #[.int .i64 kap, .bool true, .slice bo b.length bc, .slice so s.length sc, .slice ro r.length rc] 26)).alloc (.cells #[.int .i64 0, .bool false, .slice none 0 0, .slice none 0 0, .slice none 0 0] 26))) := hw0
    have hs0 : w.heap.size + 1 + 1 ≤ w0.heap.size := by rw [hw0]; simp
    clear hw0
    go_enter Try.func40, Try.ntmps40
    go_wp2_with fail
    rw [← H0.out]
    refine (specGood_is kap true bo bc b so sc s ro rc r w0 true hlb hls hlr (hz.later hB0) HG.out).mono ?_
    rintro e w1 ⟨rfl, hb1⟩
    have hB1 := hB0.trans (hb1.mono hB0.size)
    have hs1 : w.heap.size + 1 + 1 ≤ w1.heap.size := Nat.le_trans hs0 hb1.size
    have hz1 : w0.heap.size ≤ w1.heap.size := hb1.size
    have XA1 := hid (XA0.out.later hb1)
    have XR1 := hid (XR0.out.later hb1)
    clear XA0 XR0
    clear hb1
    have a0 := XA1.out.c 0 rfl
    have af0 := XA1.out.f 0 rfl
    have a1 := XA1.out.c 1 rfl
    have af1 := XA1.out.f 1 rfl
    have a2 := XA1.out.c 2 rfl
    have af2 := XA1.out.f 2 rfl
    have a3 := XA1.out.c 3 rfl
    have af3 := XA1.out.f 3 rfl
    have a4 := XA1.out.c 4 rfl
    have af4 := XA1.out.f 4 rfl
    have az := XA1.out.size
    have r0 := XR1.out.c 0 rfl
    have rf0 := XR1.out.f 0 rfl
    have r1 := XR1.out.c 1 rfl
    have rf1 := XR1.out.f 1 rfl
    have r2 := XR1.out.c 2 rfl
    have rf2 := XR1.out.f 2 rfl
    have r3 := XR1.out.c 3 rfl
    have rf3 := XR1.out.f 3 rfl
    have r4 := XR1.out.c 4 rfl
    have rf4 := XR1.out.f 4 rfl
    have rz := XR1.out.size
    go_wp2_with fail
    clear a0 af0 a1 af1 a2 af2 a3 af3 a4 af4 az r0 rf0 r1 rf1 r2 rf2 r3 rf3 r4 rf4 rz
    refine (ownBox_any kap true bo bc b so sc s ro rc r w1 hlb hls hlr (hz.later hB1) hwf).mono ?_
    rintro e w2 ⟨⟨gb, bc1, gs, sc1, gr, rc1, rfl, hF⟩, hb2⟩
    have hB2 := hB1.trans (hb2.mono hB1.size)
    have hs2 : w.heap.size + 1 + 1 ≤ w2.heap.size := Nat.le_trans hs1 hb2.size
    have hz2 : w1.heap.size ≤ w2.heap.size := hb2.size
    have XA2 := hid (XA1.out.later hb2)
    have XR2 := hid (XR1.out.later hb2)
    clear XA1 XR1
    have F2 := hid (hF)
    clear hb2 hF
    have a0 := XA2.out.c 0 rfl
    have af0 := XA2.out.f 0 rfl
    have a1 := XA2.out.c 1 rfl
    have af1 := XA2.out.f 1 rfl
    have a2 := XA2.out.c 2 rfl
    have af2 := XA2.out.f 2 rfl
    have a3 := XA2.out.c 3 rfl
    have af3 := XA2.out.f 3 rfl
    have a4 := XA2.out.c 4 rfl
    have af4 := XA2.out.f 4 rfl
    have az := XA2.out.size
    have r0 := XR2.out.c 0 rfl
    have rf0 := XR2.out.f 0 rfl
    have r1 := XR2.out.c 1 rfl
    have rf1 := XR2.out.f 1 rfl
    have r2 := XR2.out.c 2 rfl
    have rf2 := XR2.out.f 2 rfl
    have r3 := XR2.out.c 3 rfl
    have rf3 := XR2.out.f 3 rfl
    have r4 := XR2.out.c 4 rfl
    have rf4 := XR2.out.f 4 rfl
    have rz := XR2.out.size
    go_upto_region 4 with fail
    clear a0 af0 a1 af1 a2 af2 a3 af3 a4 af4 az r0 rf0 r1 rf1 r2 rf2 r3 rf3 r4 rf4 rz
    obtain ⟨w3, hV⟩ : ∃ V, V = (((((w2.setCell ⟨w.heap.size, 0, none⟩ (.int .i64 kap)).setCell ⟨w.heap.size, 1, none⟩ (.bool true)).setCell ⟨w.heap.size, 2, none⟩ (.slice (some ⟨gb, 0, none⟩) b.length bc1)).setCell ⟨w.heap.size, 3, none⟩ (.slice (some ⟨gs, 0, none⟩) s.length sc1)).setCell ⟨w.heap.size, 4, none⟩ (.slice (some ⟨gr, 0, none⟩) r.length rc1)) := ⟨_, rfl⟩
    have hz3 : w2.heap.size ≤ w3.heap.size := by rw [hV]; simp [World.setCell]
    have hs3 : w.heap.size + 1 + 1 ≤ w3.heap.size := Nat.le_trans hs2 hz3
    have hB3 : Below w.heap.size w w3 := by rw [hV]; exact (((((hB2.setCell (p := ⟨w.heap.size, 0, none⟩) (by dsimp only; omega) _).setCell (p := ⟨w.heap.size, 1, none⟩) (by dsimp only; omega) _).setCell (p := ⟨w.heap.size, 2, none⟩) (by dsimp only; omega) _).setCell (p := ⟨w.heap.size, 3, none⟩) (by dsimp only; omega) _).setCell (p := ⟨w.heap.size, 4, none⟩) (by dsimp only; omega) _)
    have XA3 := hid ((((((XA2.out.set 0 (.int .i64 kap)).set 1 (.bool true)).set 2 (.slice (some ⟨gb, 0, none⟩) b.length bc1)).set 3 (.slice (some ⟨gs, 0, none⟩) s.length sc1)).set 4 (.slice (some ⟨gr, 0, none⟩) r.length rc1)))
    rw [← hV] at XA3
    have XR3 := hid ((((((XR2.out.other (a := ⟨w.heap.size, 0, none⟩) (by dsimp only; omega) (.int .i64 kap)).other (a := ⟨w.heap.size, 1, none⟩) (by dsimp only; omega) (.bool true)).other (a := ⟨w.heap.size, 2, none⟩) (by dsimp only; omega) (.slice (some ⟨gb, 0, none⟩) b.length bc1)).other (a := ⟨w.heap.size, 3, none⟩) (by dsimp only; omega) (.slice (some ⟨gs, 0, none⟩) s.length sc1)).other (a := ⟨w.heap.size, 4, none⟩) (by dsimp only; omega) (.slice (some ⟨gr, 0, none⟩) r.length rc1)))
    rw [← hV] at XR3
    have F3 := hid ((((((F2.out.setBelow (a := ⟨w.heap.size, 0, none⟩) (by dsimp only; omega) (.int .i64 kap)).setBelow (a := ⟨w.heap.size, 1, none⟩) (by dsimp only; omega) (.bool true)).setBelow (a := ⟨w.heap.size, 2, none⟩) (by dsimp only; omega) (.slice (some ⟨gb, 0, none⟩) b.length bc1)).setBelow (a := ⟨w.heap.size, 3, none⟩) (by dsimp only; omega) (.slice (some ⟨gs, 0, none⟩) s.length sc1)).setBelow (a := ⟨w.heap.size, 4, none⟩) (by dsimp only; omega) (.slice (some ⟨gr, 0, none⟩) r.length rc1)))
    rw [← hV] at F3
    have H3 : Hid (w3 = (((((w2.setCell ⟨w.heap.size, 0, none⟩ (.int .i64 kap)).setCell ⟨w.heap.size, 1, none⟩ (.bool true)).setCell ⟨w.heap.size, 2, none⟩ (.slice (some ⟨gb, 0, none⟩) b.length bc1)).setCell ⟨w.heap.size, 3, none⟩ (.slice (some ⟨gs, 0, none⟩) s.length sc1)).setCell ⟨w.heap.size, 4, none⟩ (.slice (some ⟨gr, 0, none⟩) r.length rc1))) := hV
    clear hV XA2 XR2 F2
    rw [← H3.out]
    clear H3
    have a0 := XA3.out.c 0 rfl
    have af0 := XA3.out.f 0 rfl
    have a1 := XA3.out.c 1 rfl
    have af1 := XA3.out.f 1 rfl
    have a2 := XA3.out.c 2 rfl
    have af2 := XA3.out.f 2 rfl
    have a3 := XA3.out.c 3 rfl
    have af3 := XA3.out.f 3 rfl
    have a4 := XA3.out.c 4 rfl
    have af4 := XA3.out.f 4 rfl
    have az := XA3.out.size
    have r0 := XR3.out.c 0 rfl
    have rf0 := XR3.out.f 0 rfl
    have r1 := XR3.out.c 1 rfl
    have rf1 := XR3.out.f 1 rfl
    have r2 := XR3.out.c 2 rfl
    have rf2 := XR3.out.f 2 rfl
    have r3 := XR3.out.c 3 rfl
    have rf3 := XR3.out.f 3 rfl
    have r4 := XR3.out.c 4 rfl
    have rf4 := XR3.out.f 4 rfl
    have rz := XR3.out.size
    go_wp2
    refine bodyPost_ret (v := .tuple #[.agg #[.int .i64 kap, .bool true, .slice (some ⟨gb, 0, none⟩) b.length bc1, .slice (some ⟨gs, 0, none⟩) s.length sc1, .slice (some ⟨gr, 0, none⟩) r.length rc1], .int .i64 2]) (by simp [results, Try.results40, go_sem, r0, r1, r2, r3, r4]) rfl ?_
    rw [HR.out]
    exact ⟨⟨_, _, _, rfl, (OBox.w (((((F3.out.setBelow (a := ⟨w.heap.size + 1, 0, none⟩) (by dsimp only; omega) _).setBelow (a := ⟨w.heap.size + 1, 1, none⟩) (by dsimp only; omega) _).setBelow (a := ⟨w.heap.size + 1, 2, none⟩) (by dsimp only; omega) _).setBelow (a := ⟨w.heap.size + 1, 3, none⟩) (by dsimp only; omega) _).setBelow (a := ⟨w.heap.size + 1, 4, none⟩) (by dsimp only; omega) _)).low (by omega)⟩, (((((hB3.setCell (p := ⟨w.heap.size + 1, 0, none⟩) (by dsimp only; omega) _).setCell (p := ⟨w.heap.size + 1, 1, none⟩) (by dsimp only; omega) _).setCell (p := ⟨w.heap.size + 1, 2, none⟩) (by dsimp only; omega) _).setCell (p := ⟨w.heap.size + 1, 3, none⟩) (by dsimp only; omega) _).setCell (p := ⟨w.heap.size + 1, 4, none⟩) (by dsimp only; omega) _)⟩
end Go.Proofs.Ytnnlbnbamhkcaaa
