
/- TakeNext: the specification. No conditions but those written. -/
import Derived.Test.YtnnlbnbamhkcaaaEi
import Derived.Test.YtnnlbnbamhkcaaaAp
import Derived.Deep.Cut
namespace Go.Proofs.Ytnnlbnbamhkcaaa
open Go.RowKit

set_option maxRecDepth 10000 in
set_option maxHeartbeats 8000000 in
theorem specTake_any (kap : Int) (cl : Bool) (bo : Option Addr) (bc : Nat) (b : List Int) (so : Option Addr) (sc : Nat) (s : List (Int × Int × Int)) (ro : Option Addr) (rc : Nat) (r : List (Int × Int × Int)) (w : World) (hlb : b.length ≤ 1048576) (hls : s.length ≤ 1048576) (hlr : r.length ≤ 1048576) (hz : InBox w.heap.size w bo b so s ro r) (hwf : WfBox bo bc so sc ro rc) :
    Calls Try.prog 6 #[.agg #[.int .i64 kap, .bool cl, .slice bo b.length bc, .slice so s.length sc, .slice ro r.length rc]] w fun e w' => AnsT w (takeR kap cl b s r) e w' := by
  cases hg : goodX kap b s r
  · have HG : Hid (goodX kap b s r = false) := hg
    have HR : Hid (takeR kap cl b s r = (0, false, [], [], [], 0, 0, 0, 0, 1)) := takeR_bad hg
    clear hg
    obtain ⟨w0, hw0⟩ : ∃ w0, w0 = (((w.alloc (.cells #[.int .i64 kap, .bool cl, .slice bo b.length bc, .slice so s.length sc, .slice ro r.length rc] 26)).alloc (.cells #[.int .i64 0, .bool false, .slice none 0 0, .slice none 0 0, .slice none 0 0] 26)).alloc (.cells #[.int .i64 0, .int .i64 0, .int .i64 0] 29)) := ⟨_, rfl⟩
    have hB0 : Below w.heap.size w w0 := by rw [hw0]; exact Below.allocS (Below.allocS (Below.allocS (Below.refl _ _) _) _) _
    have XA0 : Hid (Bx w0 (w.heap.size) [.int .i64 kap, .bool cl, .slice bo b.length bc, .slice so s.length sc, .slice ro r.length rc]) := by rw [hw0]; exact Bx.alloc (Bx.alloc (Bx.new [.int .i64 kap, .bool cl, .slice bo b.length bc, .slice so s.length sc, .slice ro r.length rc] _ rfl) _) _
    have XR0 : Hid (Bx w0 (w.heap.size + 1) [.int .i64 0, .bool false, .slice none 0 0, .slice none 0 0, .slice none 0 0]) := by rw [hw0]; exact Bx.alloc (Bx.new [.int .i64 0, .bool false, .slice none 0 0, .slice none 0 0, .slice none 0 0] _ (by simp)) _
    have XT0 : Hid (Bx w0 (w.heap.size + 1 + 1) [.int .i64 0, .int .i64 0, .int .i64 0]) := by rw [hw0]; exact Bx.new [.int .i64 0, .int .i64 0, .int .i64 0] _ (by simp)
    have H0 : Hid (w0 = (((w.alloc (.cells #[.int .i64 kap, .bool cl, .slice bo b.length bc, .slice so s.length sc, .slice ro r.length rc] 26)).alloc (.cells #[.int .i64 0, .bool false, .slice none 0 0, .slice none 0 0, .slice none 0 0] 26)).alloc (.cells #[.int .i64 0, .int .i64 0, .int .i64 0] 29))) := hw0
    have hs0 : w.heap.size + 1 + 1 + 1 ≤ w0.heap.size := by rw [hw0]; simp
    clear hw0
    go_enter Try.func6, Try.ntmps6
    go_wp2_with fail
    rw [← H0.out]
    refine (specGood_is kap cl bo bc b so sc s ro rc r w0 false hlb hls hlr (hz.later hB0) HG.out).mono ?_
    rintro e w1 ⟨rfl, hb1⟩
    have hB1 := hB0.trans (hb1.mono hB0.size)
    have hs1 : w.heap.size + 1 + 1 + 1 ≤ w1.heap.size := Nat.le_trans hs0 hb1.size
    have hz1 : w0.heap.size ≤ w1.heap.size := hb1.size
    have XA1 := hid (XA0.out.later hb1)
    have XR1 := hid (XR0.out.later hb1)
    have XT1 := hid (XT0.out.later hb1)
    clear XA0 XR0 XT0
    clear hb1
    have a0 := XA1.out.c 0 rfl
    have af0 := XA1.out.f 0 rfl
    have a1 := XA1.out.c 1 rfl
    have af1 := XA1.out.f 1 rfl
    have a2 := XA1.out.c 2 rfl
    have af2 := XA1.out.f 2 rfl
    have a3 := XA1.out.c 3 rfl
    have af3 := XA1.out.f 3 rfl
    have a4 := XA1.out.c 4 rfl
    have af4 := XA1.out.f 4 rfl
    have az := XA1.out.size
    have r0 := XR1.out.c 0 rfl
    have rf0 := XR1.out.f 0 rfl
    have r1 := XR1.out.c 1 rfl
    have rf1 := XR1.out.f 1 rfl
    have r2 := XR1.out.c 2 rfl
    have rf2 := XR1.out.f 2 rfl
    have r3 := XR1.out.c 3 rfl
    have rf3 := XR1.out.f 3 rfl
    have r4 := XR1.out.c 4 rfl
    have rf4 := XR1.out.f 4 rfl
    have rz := XR1.out.size
    have t0 := XT1.out.c 0 rfl
    have tf0 := XT1.out.f 0 rfl
    have t1 := XT1.out.c 1 rfl
    have tf1 := XT1.out.f 1 rfl
    have t2 := XT1.out.c 2 rfl
    have tf2 := XT1.out.f 2 rfl
    have tz := XT1.out.size
    go_wp2
    refine bodyPost_ret (v := .tuple #[.agg #[.int .i64 0, .bool false, .slice none 0 0, .slice none 0 0, .slice none 0 0], .int .i64 0, .agg #[.int .i64 0, .int .i64 0, .int .i64 0], .int .i64 1]) (by simp [results, Try.results6, go_sem, r0, r1, r2, r3, r4, t0, t1, t2]) rfl ?_
    rw [HR.out]
    exact ⟨⟨none, 0, none, 0, none, 0, rfl, frBox_nil _ _ _⟩, ((((((((hB1.setCell (p := ⟨w.heap.size + 1, 0, none⟩) (by dsimp only; omega) _).setCell (p := ⟨w.heap.size + 1, 1, none⟩) (by dsimp only; omega) _).setCell (p := ⟨w.heap.size + 1, 2, none⟩) (by dsimp only; omega) _).setCell (p := ⟨w.heap.size + 1, 3, none⟩) (by dsimp only; omega) _).setCell (p := ⟨w.heap.size + 1, 4, none⟩) (by dsimp only; omega) _).setCell (p := ⟨w.heap.size + 1 + 1, 0, none⟩) (by dsimp only; omega) _).setCell (p := ⟨w.heap.size + 1 + 1, 1, none⟩) (by dsimp only; omega) _).setCell (p := ⟨w.heap.size + 1 + 1, 2, none⟩) (by dsimp only; omega) _)⟩
  have HG : Hid (goodX kap b s r = true) := hg
  by_cases hbp : 0 < b.length
  · obtain ⟨x, hx⟩ : ∃ x, el b 0 = x := ⟨_, rfl⟩
    obtain ⟨Rb, hRb⟩ : ∃ l, b.drop 1 = l := ⟨_, rfl⟩
    have HR : Hid (takeR kap cl b s r = (kap, cl, Rb, s, r, x, 0, 0, 0, 0)) := by rw [Hid, takeR, if_pos hg, if_pos hbp, hx, hRb]
    have HXX := hid hx
    have HRb := hid hRb
    clear hg hx hRb
    obtain ⟨w0, hw0⟩ : ∃ w0, w0 = (((w.alloc (.cells #[.int .i64 kap, .bool cl, .slice bo b.length bc, .slice so s.length sc, .slice ro r.length rc] 26)).alloc (.cells #[.int .i64 0, .bool false, .slice none 0 0, .slice none 0 0, .slice none 0 0] 26)).alloc (.cells #[.int .i64 0, .int .i64 0, .int .i64 0] 29)) := ⟨_, rfl⟩
    have hB0 : Below w.heap.size w w0 := by rw [hw0]; exact Below.allocS (Below.allocS (Below.allocS (Below.refl _ _) _) _) _
    have XA0 : Hid (Bx w0 (w.heap.size) [.int .i64 kap, .bool cl, .slice bo b.length bc, .slice so s.length sc, .slice ro r.length rc]) := by rw [hw0]; exact Bx.alloc (Bx.alloc (Bx.new [.int .i64 kap, .bool cl, .slice bo b.length bc, .slice so s.length sc, .slice ro r.length rc] _ rfl) _) _
    have XR0 : Hid (Bx w0 (w.heap.size + 1) [.int .i64 0, .bool false, .slice none 0 0, .slice none 0 0, .slice none 0 0]) := by rw [hw0]; exact Bx.alloc (Bx.new [.int .i64 0, .bool false, .slice none 0 0, .slice none 0 0, .slice none 0 0] _ (by simp)) _
    have XT0 : Hid (Bx w0 (w.heap.size + 1 + 1) [.int .i64 0, .int .i64 0, .int .i64 0]) := by rw [hw0]; exact Bx.new [.int .i64 0, .int .i64 0, .int .i64 0] _ (by simp)
    have H0 : Hid (w0 = (((w.alloc (.cells #[.int .i64 kap, .bool cl, .slice bo b.length bc, .slice so s.length sc, .slice ro r.length rc] 26)).alloc (.cells #[.int .i64 0, .bool false, .slice none 0 0, .slice none 0 0, .slice none 0 0] 26)).alloc (.cells #[.int .i64 0, .int .i64 0, .int .i64 0] 29))) := hw0
    have hs0 : w.heap.size + 1 + 1 + 1 ≤ w0.heap.size := by rw [hw0]; simp
    clear hw0
    go_enter Try.func6, Try.ntmps6
    go_wp2_with fail
    rw [← H0.out]
    refine (specGood_is kap cl bo bc b so sc s ro rc r w0 true hlb hls hlr (hz.later hB0) HG.out).mono ?_
    rintro e w1 ⟨rfl, hb1⟩
    have hB1 := hB0.trans (hb1.mono hB0.size)
    have hs1 : w.heap.size + 1 + 1 + 1 ≤ w1.heap.size := Nat.le_trans hs0 hb1.size
    have hz1 : w0.heap.size ≤ w1.heap.size := hb1.size
    have XA1 := hid (XA0.out.later hb1)
    have XR1 := hid (XR0.out.later hb1)
    have XT1 := hid (XT0.out.later hb1)
    clear XA0 XR0 XT0
    clear hb1
    have a0 := XA1.out.c 0 rfl
    have af0 := XA1.out.f 0 rfl
    have a1 := XA1.out.c 1 rfl
    have af1 := XA1.out.f 1 rfl
    have a2 := XA1.out.c 2 rfl
    have af2 := XA1.out.f 2 rfl
    have a3 := XA1.out.c 3 rfl
    have af3 := XA1.out.f 3 rfl
    have a4 := XA1.out.c 4 rfl
    have af4 := XA1.out.f 4 rfl
    have az := XA1.out.size
    have r0 := XR1.out.c 0 rfl
    have rf0 := XR1.out.f 0 rfl
    have r1 := XR1.out.c 1 rfl
    have rf1 := XR1.out.f 1 rfl
    have r2 := XR1.out.c 2 rfl
    have rf2 := XR1.out.f 2 rfl
    have r3 := XR1.out.c 3 rfl
    have rf3 := XR1.out.f 3 rfl
    have r4 := XR1.out.c 4 rfl
    have rf4 := XR1.out.f 4 rfl
    have rz := XR1.out.size
    have t0 := XT1.out.c 0 rfl
    have tf0 := XT1.out.f 0 rfl
    have t1 := XT1.out.c 1 rfl
    have tf1 := XT1.out.f 1 rfl
    have t2 := XT1.out.c 2 rfl
    have tf2 := XT1.out.f 2 rfl
    have tz := XT1.out.size
    go_wp2_with fail
    clear a0 af0 a1 af1 a2 af2 a3 af3 a4 af4 az r0 rf0 r1 rf1 r2 rf2 r3 rf3 r4 rf4 rz t0 tf0 t1 tf1 t2 tf2 tz
    refine (ownBox_any kap cl bo bc b so sc s ro rc r w1 hlb hls hlr (hz.later hB1) hwf).mono ?_
    rintro e w2 ⟨⟨gb, bc1, gs, sc1, gr, rc1, rfl, hF⟩, hb2⟩
    have hB2 := hB1.trans (hb2.mono hB1.size)
    have hs2 : w.heap.size + 1 + 1 + 1 ≤ w2.heap.size := Nat.le_trans hs1 hb2.size
    have hz2 : w1.heap.size ≤ w2.heap.size := hb2.size
    have XA2 := hid (XA1.out.later hb2)
    have XR2 := hid (XR1.out.later hb2)
    have XT2 := hid (XT1.out.later hb2)
    clear XA1 XR1 XT1
    have F2 := hid (hF)
    clear hb2 hF
    have a0 := XA2.out.c 0 rfl
    have af0 := XA2.out.f 0 rfl
    have a1 := XA2.out.c 1 rfl
    have af1 := XA2.out.f 1 rfl
    have a2 := XA2.out.c 2 rfl
    have af2 := XA2.out.f 2 rfl
    have a3 := XA2.out.c 3 rfl
    have af3 := XA2.out.f 3 rfl
    have a4 := XA2.out.c 4 rfl
    have af4 := XA2.out.f 4 rfl
    have az := XA2.out.size
    have r0 := XR2.out.c 0 rfl
    have rf0 := XR2.out.f 0 rfl
    have r1 := XR2.out.c 1 rfl
    have rf1 := XR2.out.f 1 rfl
    have r2 := XR2.out.c 2 rfl
    have rf2 := XR2.out.f 2 rfl
    have r3 := XR2.out.c 3 rfl
    have rf3 := XR2.out.f 3 rfl
    have r4 := XR2.out.c 4 rfl
    have rf4 := XR2.out.f 4 rfl
    have rz := XR2.out.size
    have t0 := XT2.out.c 0 rfl
    have tf0 := XT2.out.f 0 rfl
    have t1 := XT2.out.c 1 rfl
    have tf1 := XT2.out.f 1 rfl
    have t2 := XT2.out.c 2 rfl
    have tf2 := XT2.out.f 2 rfl
    have tz := XT2.out.size
    go_upto_region 4 with fail
    clear a0 af0 a1 af1 a2 af2 a3 af3 a4 af4 az r0 rf0 r1 rf1 r2 rf2 r3 rf3 r4 rf4 rz t0 tf0 t1 tf1 t2 tf2 tz
    obtain ⟨w3, hV⟩ : ∃ V, V = (((((w2.setCell ⟨w.heap.size, 0, none⟩ (.int .i64 kap)).setCell ⟨w.heap.size, 1, none⟩ (.bool cl)).setCell ⟨w.heap.size, 2, none⟩ (.slice (some ⟨gb, 0, none⟩) b.length bc1)).setCell ⟨w.heap.size, 3, none⟩ (.slice (some ⟨gs, 0, none⟩) s.length sc1)).setCell ⟨w.heap.size, 4, none⟩ (.slice (some ⟨gr, 0, none⟩) r.length rc1)) := ⟨_, rfl⟩
    have hz3 : w2.heap.size ≤ w3.heap.size := by rw [hV]; simp [World.setCell]
    have hs3 : w.heap.size + 1 + 1 + 1 ≤ w3.heap.size := Nat.le_trans hs2 hz3
    have hB3 : Below w.heap.size w w3 := by rw [hV]; exact (((((hB2.setCell (p := ⟨w.heap.size, 0, none⟩) (by dsimp only; omega) _).setCell (p := ⟨w.heap.size, 1, none⟩) (by dsimp only; omega) _).setCell (p := ⟨w.heap.size, 2, none⟩) (by dsimp only; omega) _).setCell (p := ⟨w.heap.size, 3, none⟩) (by dsimp only; omega) _).setCell (p := ⟨w.heap.size, 4, none⟩) (by dsimp only; omega) _)
    have XA3 := hid ((((((XA2.out.set 0 (.int .i64 kap)).set 1 (.bool cl)).set 2 (.slice (some ⟨gb, 0, none⟩) b.length bc1)).set 3 (.slice (some ⟨gs, 0, none⟩) s.length sc1)).set 4 (.slice (some ⟨gr, 0, none⟩) r.length rc1)))
    rw [← hV] at XA3
    have XR3 := hid ((((((XR2.out.other (a := ⟨w.heap.size, 0, none⟩) (by dsimp only; omega) (.int .i64 kap)).other (a := ⟨w.heap.size, 1, none⟩) (by dsimp only; omega) (.bool cl)).other (a := ⟨w.heap.size, 2, none⟩) (by dsimp only; omega) (.slice (some ⟨gb, 0, none⟩) b.length bc1)).other (a := ⟨w.heap.size, 3, none⟩) (by dsimp only; omega) (.slice (some ⟨gs, 0, none⟩) s.length sc1)).other (a := ⟨w.heap.size, 4, none⟩) (by dsimp only; omega) (.slice (some ⟨gr, 0, none⟩) r.length rc1)))
    rw [← hV] at XR3
    have XT3 := hid ((((((XT2.out.other (a := ⟨w.heap.size, 0, none⟩) (by dsimp only; omega) (.int .i64 kap)).other (a := ⟨w.heap.size, 1, none⟩) (by dsimp only; omega) (.bool cl)).other (a := ⟨w.heap.size, 2, none⟩) (by dsimp only; omega) (.slice (some ⟨gb, 0, none⟩) b.length bc1)).other (a := ⟨w.heap.size, 3, none⟩) (by dsimp only; omega) (.slice (some ⟨gs, 0, none⟩) s.length sc1)).other (a := ⟨w.heap.size, 4, none⟩) (by dsimp only; omega) (.slice (some ⟨gr, 0, none⟩) r.length rc1)))
    rw [← hV] at XT3
    have F3 := hid ((((((F2.out.setBelow (a := ⟨w.heap.size, 0, none⟩) (by dsimp only; omega) (.int .i64 kap)).setBelow (a := ⟨w.heap.size, 1, none⟩) (by dsimp only; omega) (.bool cl)).setBelow (a := ⟨w.heap.size, 2, none⟩) (by dsimp only; omega) (.slice (some ⟨gb, 0, none⟩) b.length bc1)).setBelow (a := ⟨w.heap.size, 3, none⟩) (by dsimp only; omega) (.slice (some ⟨gs, 0, none⟩) s.length sc1)).setBelow (a := ⟨w.heap.size, 4, none⟩) (by dsimp only; omega) (.slice (some ⟨gr, 0, none⟩) r.length rc1)))
    rw [← hV] at F3
    have H3 : Hid (w3 = (((((w2.setCell ⟨w.heap.size, 0, none⟩ (.int .i64 kap)).setCell ⟨w.heap.size, 1, none⟩ (.bool cl)).setCell ⟨w.heap.size, 2, none⟩ (.slice (some ⟨gb, 0, none⟩) b.length bc1)).setCell ⟨w.heap.size, 3, none⟩ (.slice (some ⟨gs, 0, none⟩) s.length sc1)).setCell ⟨w.heap.size, 4, none⟩ (.slice (some ⟨gr, 0, none⟩) r.length rc1))) := hV
    clear hV XA2 XR2 XT2 F2
    rw [← H3.out]
    clear H3
    obtain ⟨bb, off, ebb, hbb, hcb⟩ := ints_at (OBox.in F3.out).1 hbp
    cases ebb
    have d0 := hcb 0 hbp
    rw [HXX.out, Nat.add_zero] at d0
    clear hcb
    have hcap : b.length ≤ bc1 := (OBox.fr F3.out).1.cap
    have hlen : b.length - 1 = Rb.length := by rw [← HRb.out]; simp
    obtain ⟨ao, hao⟩ : ∃ a : Option Addr, a = (if bc1 = 1 then some ⟨gb, 0, none⟩ else some ⟨gb, 1, none⟩) := ⟨_, rfl⟩
    have HWf : Hid (ao = none → bc1 - 1 = 0) := by intro h; rw [hao] at h; split at h <;> cases h
    have a0 := XA3.out.c 0 rfl
    have af0 := XA3.out.f 0 rfl
    have a1 := XA3.out.c 1 rfl
    have af1 := XA3.out.f 1 rfl
    have a2 := XA3.out.c 2 rfl
    have af2 := XA3.out.f 2 rfl
    have a3 := XA3.out.c 3 rfl
    have af3 := XA3.out.f 3 rfl
    have a4 := XA3.out.c 4 rfl
    have af4 := XA3.out.f 4 rfl
    have az := XA3.out.size
    have r0 := XR3.out.c 0 rfl
    have rf0 := XR3.out.f 0 rfl
    have r1 := XR3.out.c 1 rfl
    have rf1 := XR3.out.f 1 rfl
    have r2 := XR3.out.c 2 rfl
    have rf2 := XR3.out.f 2 rfl
    have r3 := XR3.out.c 3 rfl
    have rf3 := XR3.out.f 3 rfl
    have r4 := XR3.out.c 4 rfl
    have rf4 := XR3.out.f 4 rfl
    have rz := XR3.out.size
    have t0 := XT3.out.c 0 rfl
    have tf0 := XT3.out.f 0 rfl
    have t1 := XT3.out.c 1 rfl
    have tf1 := XT3.out.f 1 rfl
    have t2 := XT3.out.c 2 rfl
    have tf2 := XT3.out.f 2 rfl
    have tz := XT3.out.size
    go_upto_region 7 with fail
    clear a0 af0 a1 af1 a2 af2 a3 af3 a4 af4 az r0 rf0 r1 rf1 r2 rf2 r3 rf3 r4 rf4 rz t0 tf0 t1 tf1 t2 tf2 tz
    rw [← hao]
    have HAO := hid hao
    clear hao hlen
    obtain ⟨w4, hV⟩ : ∃ V, V = (w3.setCell ⟨w.heap.size, 2, none⟩ (.slice ao Rb.length (bc1 - 1))) := ⟨_, rfl⟩
    have hz4 : w3.heap.size ≤ w4.heap.size := by rw [hV]; simp [World.setCell]
    have hs4 : w.heap.size + 1 + 1 + 1 ≤ w4.heap.size := Nat.le_trans hs3 hz4
    have hB4 : Below w.heap.size w w4 := by rw [hV]; exact (hB3.setCell (p := ⟨w.heap.size, 2, none⟩) (by dsimp only; omega) _)
    have XA4 := hid ((XA3.out.set 2 (.slice ao Rb.length (bc1 - 1))))
    rw [← hV] at XA4
    have XR4 := hid ((XR3.out.other (a := ⟨w.heap.size, 2, none⟩) (by dsimp only; omega) (.slice ao Rb.length (bc1 - 1))))
    rw [← hV] at XR4
    have XT4 := hid ((XT3.out.other (a := ⟨w.heap.size, 2, none⟩) (by dsimp only; omega) (.slice ao Rb.length (bc1 - 1))))
    rw [← hV] at XT4
    have F4 := hid ((F3.out.setBelow (a := ⟨w.heap.size, 2, none⟩) (by dsimp only; omega) (.slice ao Rb.length (bc1 - 1))))
    rw [← hV] at F4
    have H4 : Hid (w4 = (w3.setCell ⟨w.heap.size, 2, none⟩ (.slice ao Rb.length (bc1 - 1)))) := hV
    clear hV XA3 XR3 XT3 F3
    rw [← H4.out]
    clear H4
    have HJ : Hid (kI.In w4.heap.size w4 ao Rb) := by
      unfold Hid
      rw [HAO.out, ← HRb.out]
      split
      · refine .inl (List.eq_nil_of_length_eq_zero ?_)
        simp; omega
      · have h := Kind.In.drop ((OBox.in F4.out).1) 1
        rw [Nat.zero_add] at h
        exact h
    clear HAO
    have a0 := XA4.out.c 0 rfl
    have af0 := XA4.out.f 0 rfl
    have a1 := XA4.out.c 1 rfl
    have af1 := XA4.out.f 1 rfl
    have a2 := XA4.out.c 2 rfl
    have af2 := XA4.out.f 2 rfl
    have a3 := XA4.out.c 3 rfl
    have af3 := XA4.out.f 3 rfl
    have a4 := XA4.out.c 4 rfl
    have af4 := XA4.out.f 4 rfl
    have az := XA4.out.size
    have r0 := XR4.out.c 0 rfl
    have rf0 := XR4.out.f 0 rfl
    have r1 := XR4.out.c 1 rfl
    have rf1 := XR4.out.f 1 rfl
    have r2 := XR4.out.c 2 rfl
    have rf2 := XR4.out.f 2 rfl
    have r3 := XR4.out.c 3 rfl
    have rf3 := XR4.out.f 3 rfl
    have r4 := XR4.out.c 4 rfl
    have rf4 := XR4.out.f 4 rfl
    have rz := XR4.out.size
    have t0 := XT4.out.c 0 rfl
    have tf0 := XT4.out.f 0 rfl
    have t1 := XT4.out.c 1 rfl
    have tf1 := XT4.out.f 1 rfl
    have t2 := XT4.out.c 2 rfl
    have tf2 := XT4.out.f 2 rfl
    have tz := XT4.out.size
    go_wp2_with fail
    clear a0 af0 a1 af1 a2 af2 a3 af3 a4 af4 az r0 rf0 r1 rf1 r2 rf2 r3 rf3 r4 rf4 rz t0 tf0 t1 tf1 t2 tf2 tz
    refine (ownBox_any kap cl ao (bc1 - 1) Rb (some ⟨gs, 0, none⟩) sc1 s (some ⟨gr, 0, none⟩) rc1 r w4 (by rw [← HRb.out]; simp; omega) hls hlr ⟨HJ.out, (OBox.in F4.out).2⟩ ⟨HWf.out, by simp, by simp⟩).mono ?_
    rintro e w5 ⟨⟨gb2, bc2, gs2, sc2, gr2, rc2, rfl, hF⟩, hb5⟩
    have hB5 := hB4.trans (hb5.mono hB4.size)
    have hs5 : w.heap.size + 1 + 1 + 1 ≤ w5.heap.size := Nat.le_trans hs4 hb5.size
    have hz5 : w4.heap.size ≤ w5.heap.size := hb5.size
    have XA5 := hid (XA4.out.later hb5)
    have XR5 := hid (XR4.out.later hb5)
    have XT5 := hid (XT4.out.later hb5)
    have F5 := hid (F4.out.below hb5)
    clear XA4 XR4 XT4 F4
    have F2x5 := hid (hF)
    clear hb5 hF
    have a0 := XA5.out.c 0 rfl
    have af0 := XA5.out.f 0 rfl
    have a1 := XA5.out.c 1 rfl
    have af1 := XA5.out.f 1 rfl
    have a2 := XA5.out.c 2 rfl
    have af2 := XA5.out.f 2 rfl
    have a3 := XA5.out.c 3 rfl
    have af3 := XA5.out.f 3 rfl
    have a4 := XA5.out.c 4 rfl
    have af4 := XA5.out.f 4 rfl
    have az := XA5.out.size
    have r0 := XR5.out.c 0 rfl
    have rf0 := XR5.out.f 0 rfl
    have r1 := XR5.out.c 1 rfl
    have rf1 := XR5.out.f 1 rfl
    have r2 := XR5.out.c 2 rfl
    have rf2 := XR5.out.f 2 rfl
    have r3 := XR5.out.c 3 rfl
    have rf3 := XR5.out.f 3 rfl
    have r4 := XR5.out.c 4 rfl
    have rf4 := XR5.out.f 4 rfl
    have rz := XR5.out.size
    have t0 := XT5.out.c 0 rfl
    have tf0 := XT5.out.f 0 rfl
    have t1 := XT5.out.c 1 rfl
    have tf1 := XT5.out.f 1 rfl
    have t2 := XT5.out.c 2 rfl
    have tf2 := XT5.out.f 2 rfl
    have tz := XT5.out.size
    go_wp2
    refine bodyPost_ret (v := .tuple #[.agg #[.int .i64 kap, .bool cl, .slice (some ⟨gb2, 0, none⟩) Rb.length bc2, .slice (some ⟨gs2, 0, none⟩) s.length sc2, .slice (some ⟨gr2, 0, none⟩) r.length rc2], .int .i64 x, .agg #[.int .i64 0, .int .i64 0, .int .i64 0], .int .i64 0]) (by simp [results, Try.results6, go_sem, r0, r1, r2, r3, r4, t0, t1, t2]) rfl ?_
    rw [HR.out]
    exact ⟨⟨_, _, _, _, _, _, rfl, (FrBox.wide (OBox.fr ((((((((F2x5.out.setBelow (a := ⟨w.heap.size + 1, 0, none⟩) (by dsimp only; omega) _).setBelow (a := ⟨w.heap.size + 1, 1, none⟩) (by dsimp only; omega) _).setBelow (a := ⟨w.heap.size + 1, 2, none⟩) (by dsimp only; omega) _).setBelow (a := ⟨w.heap.size + 1, 3, none⟩) (by dsimp only; omega) _).setBelow (a := ⟨w.heap.size + 1, 4, none⟩) (by dsimp only; omega) _).setBelow (a := ⟨w.heap.size + 1 + 1, 0, none⟩) (by dsimp only; omega) _).setBelow (a := ⟨w.heap.size + 1 + 1, 1, none⟩) (by dsimp only; omega) _).setBelow (a := ⟨w.heap.size + 1 + 1, 2, none⟩) (by dsimp only; omega) _)) (by omega) (Nat.le_refl _)).low (Nat.le_refl _)⟩, ((((((((hB5.setCell (p := ⟨w.heap.size + 1, 0, none⟩) (by dsimp only; omega) _).setCell (p := ⟨w.heap.size + 1, 1, none⟩) (by dsimp only; omega) _).setCell (p := ⟨w.heap.size + 1, 2, none⟩) (by dsimp only; omega) _).setCell (p := ⟨w.heap.size + 1, 3, none⟩) (by dsimp only; omega) _).setCell (p := ⟨w.heap.size + 1, 4, none⟩) (by dsimp only; omega) _).setCell (p := ⟨w.heap.size + 1 + 1, 0, none⟩) (by dsimp only; omega) _).setCell (p := ⟨w.heap.size + 1 + 1, 1, none⟩) (by dsimp only; omega) _).setCell (p := ⟨w.heap.size + 1 + 1, 2, none⟩) (by dsimp only; omega) _)⟩
  have hbz : b.length = 0 := by omega
  have hbn : decide ((0 : Int) < (b.length : Int)) = false := (len0 hbz).2.1
  have HBZ := hid hbz
  have hbm : ¬ (0 : Int) < (b.length : Int) := by omega
  by_cases hsp : 0 < s.length
  · obtain ⟨ht0, ht1⟩ := tries_first hg hsp
    obtain ⟨⟨x1, x2, x3⟩, hx⟩ : ∃ x, el s 0 = x := ⟨_, rfl⟩
    obtain ⟨x4, hx4⟩ : ∃ x, tryV x3 = x := ⟨_, rfl⟩
    obtain ⟨Rs, hRs⟩ : ∃ l, s.drop 1 = l := ⟨_, rfl⟩
    obtain ⟨Rr, hRr⟩ : ∃ l, r ++ [(x1, x2, x4)] = l := ⟨_, rfl⟩
    rw [hx] at ht0 ht1
    dsimp only at ht0 ht1
    have HR : Hid (takeR kap cl b s r = (kap, cl, b, Rs, Rr, 0, x1, x2, x4, 0)) := by rw [Hid, takeR, if_pos hg, if_neg hbp, if_pos hsp, hx]; dsimp only; rw [hx4, hRs, hRr]
    have HXX := hid hx
    have HRs := hid hRs
    have HRr := hid hRr
    have hszn : ((s.length : Int) == 0) = false := (len1 (by omega)).1
    have hq1 : s.length + r.length ≤ 1048576 := by have := goodX_good hg; omega
    clear hg hx hRs hRr hbp hbz
    by_cases hlt3 : x3 < 1000
    · have hlt3' : decide (x3 < 1000) = true := by simpa using hlt3
      have e4 : x4 = x3 + 1 := by rw [← hx4, tryV, if_pos hlt3]
      have E4 := hid e4
      clear hx4 e4
      obtain ⟨w0, hw0⟩ : ∃ w0, w0 = (((w.alloc (.cells #[.int .i64 kap, .bool cl, .slice bo b.length bc, .slice so s.length sc, .slice ro r.length rc] 26)).alloc (.cells #[.int .i64 0, .bool false, .slice none 0 0, .slice none 0 0, .slice none 0 0] 26)).alloc (.cells #[.int .i64 0, .int .i64 0, .int .i64 0] 29)) := ⟨_, rfl⟩
      have hB0 : Below w.heap.size w w0 := by rw [hw0]; exact Below.allocS (Below.allocS (Below.allocS (Below.refl _ _) _) _) _
      have XA0 : Hid (Bx w0 (w.heap.size) [.int .i64 kap, .bool cl, .slice bo b.length bc, .slice so s.length sc, .slice ro r.length rc]) := by rw [hw0]; exact Bx.alloc (Bx.alloc (Bx.new [.int .i64 kap, .bool cl, .slice bo b.length bc, .slice so s.length sc, .slice ro r.length rc] _ rfl) _) _
      have XR0 : Hid (Bx w0 (w.heap.size + 1) [.int .i64 0, .bool false, .slice none 0 0, .slice none 0 0, .slice none 0 0]) := by rw [hw0]; exact Bx.alloc (Bx.new [.int .i64 0, .bool false, .slice none 0 0, .slice none 0 0, .slice none 0 0] _ (by simp)) _
      have XT0 : Hid (Bx w0 (w.heap.size + 1 + 1) [.int .i64 0, .int .i64 0, .int .i64 0]) := by rw [hw0]; exact Bx.new [.int .i64 0, .int .i64 0, .int .i64 0] _ (by simp)
      have H0 : Hid (w0 = (((w.alloc (.cells #[.int .i64 kap, .bool cl, .slice bo b.length bc, .slice so s.length sc, .slice ro r.length rc] 26)).alloc (.cells #[.int .i64 0, .bool false, .slice none 0 0, .slice none 0 0, .slice none 0 0] 26)).alloc (.cells #[.int .i64 0, .int .i64 0, .int .i64 0] 29))) := hw0
      have hs0 : w.heap.size + 1 + 1 + 1 ≤ w0.heap.size := by rw [hw0]; simp
      clear hw0
      go_enter Try.func6, Try.ntmps6
      go_wp2_with fail
      rw [← H0.out]
      refine (specGood_is kap cl bo bc b so sc s ro rc r w0 true hlb hls hlr (hz.later hB0) HG.out).mono ?_
      rintro e w1 ⟨rfl, hb1⟩
      have hB1 := hB0.trans (hb1.mono hB0.size)
      have hs1 : w.heap.size + 1 + 1 + 1 ≤ w1.heap.size := Nat.le_trans hs0 hb1.size
      have hz1 : w0.heap.size ≤ w1.heap.size := hb1.size
      have XA1 := hid (XA0.out.later hb1)
      have XR1 := hid (XR0.out.later hb1)
      have XT1 := hid (XT0.out.later hb1)
      clear XA0 XR0 XT0
      clear hb1
      have a0 := XA1.out.c 0 rfl
      have af0 := XA1.out.f 0 rfl
      have a1 := XA1.out.c 1 rfl
      have af1 := XA1.out.f 1 rfl
      have a2 := XA1.out.c 2 rfl
      have af2 := XA1.out.f 2 rfl
      have a3 := XA1.out.c 3 rfl
      have af3 := XA1.out.f 3 rfl
      have a4 := XA1.out.c 4 rfl
      have af4 := XA1.out.f 4 rfl
      have az := XA1.out.size
      have r0 := XR1.out.c 0 rfl
      have rf0 := XR1.out.f 0 rfl
      have r1 := XR1.out.c 1 rfl
      have rf1 := XR1.out.f 1 rfl
      have r2 := XR1.out.c 2 rfl
      have rf2 := XR1.out.f 2 rfl
      have r3 := XR1.out.c 3 rfl
      have rf3 := XR1.out.f 3 rfl
      have r4 := XR1.out.c 4 rfl
      have rf4 := XR1.out.f 4 rfl
      have rz := XR1.out.size
      have t0 := XT1.out.c 0 rfl
      have tf0 := XT1.out.f 0 rfl
      have t1 := XT1.out.c 1 rfl
      have tf1 := XT1.out.f 1 rfl
      have t2 := XT1.out.c 2 rfl
      have tf2 := XT1.out.f 2 rfl
      have tz := XT1.out.size
      go_wp2_with fail
      clear a0 af0 a1 af1 a2 af2 a3 af3 a4 af4 az r0 rf0 r1 rf1 r2 rf2 r3 rf3 r4 rf4 rz t0 tf0 t1 tf1 t2 tf2 tz
      refine (ownBox_any kap cl bo bc b so sc s ro rc r w1 hlb hls hlr (hz.later hB1) hwf).mono ?_
      rintro e w2 ⟨⟨gb, bc1, gs, sc1, gr, rc1, rfl, hF⟩, hb2⟩
      have hB2 := hB1.trans (hb2.mono hB1.size)
      have hs2 : w.heap.size + 1 + 1 + 1 ≤ w2.heap.size := Nat.le_trans hs1 hb2.size
      have hz2 : w1.heap.size ≤ w2.heap.size := hb2.size
      have XA2 := hid (XA1.out.later hb2)
      have XR2 := hid (XR1.out.later hb2)
      have XT2 := hid (XT1.out.later hb2)
      clear XA1 XR1 XT1
      have F2 := hid (hF)
      clear hb2 hF
      have a0 := XA2.out.c 0 rfl
      have af0 := XA2.out.f 0 rfl
      have a1 := XA2.out.c 1 rfl
      have af1 := XA2.out.f 1 rfl
      have a2 := XA2.out.c 2 rfl
      have af2 := XA2.out.f 2 rfl
      have a3 := XA2.out.c 3 rfl
      have af3 := XA2.out.f 3 rfl
      have a4 := XA2.out.c 4 rfl
      have af4 := XA2.out.f 4 rfl
      have az := XA2.out.size
      have r0 := XR2.out.c 0 rfl
      have rf0 := XR2.out.f 0 rfl
      have r1 := XR2.out.c 1 rfl
      have rf1 := XR2.out.f 1 rfl
      have r2 := XR2.out.c 2 rfl
      have rf2 := XR2.out.f 2 rfl
      have r3 := XR2.out.c 3 rfl
      have rf3 := XR2.out.f 3 rfl
      have r4 := XR2.out.c 4 rfl
      have rf4 := XR2.out.f 4 rfl
      have rz := XR2.out.size
      have t0 := XT2.out.c 0 rfl
      have tf0 := XT2.out.f 0 rfl
      have t1 := XT2.out.c 1 rfl
      have tf1 := XT2.out.f 1 rfl
      have t2 := XT2.out.c 2 rfl
      have tf2 := XT2.out.f 2 rfl
      have tz := XT2.out.size
      go_upto_region 4 with fail
      clear a0 af0 a1 af1 a2 af2 a3 af3 a4 af4 az r0 rf0 r1 rf1 r2 rf2 r3 rf3 r4 rf4 rz t0 tf0 t1 tf1 t2 tf2 tz
      obtain ⟨w3, hV⟩ : ∃ V, V = (((((w2.setCell ⟨w.heap.size, 0, none⟩ (.int .i64 kap)).setCell ⟨w.heap.size, 1, none⟩ (.bool cl)).setCell ⟨w.heap.size, 2, none⟩ (.slice (some ⟨gb, 0, none⟩) b.length bc1)).setCell ⟨w.heap.size, 3, none⟩ (.slice (some ⟨gs, 0, none⟩) s.length sc1)).setCell ⟨w.heap.size, 4, none⟩ (.slice (some ⟨gr, 0, none⟩) r.length rc1)) := ⟨_, rfl⟩
      have hz3 : w2.heap.size ≤ w3.heap.size := by rw [hV]; simp [World.setCell]
      have hs3 : w.heap.size + 1 + 1 + 1 ≤ w3.heap.size := Nat.le_trans hs2 hz3
      have hB3 : Below w.heap.size w w3 := by rw [hV]; exact (((((hB2.setCell (p := ⟨w.heap.size, 0, none⟩) (by dsimp only; omega) _).setCell (p := ⟨w.heap.size, 1, none⟩) (by dsimp only; omega) _).setCell (p := ⟨w.heap.size, 2, none⟩) (by dsimp only; omega) _).setCell (p := ⟨w.heap.size, 3, none⟩) (by dsimp only; omega) _).setCell (p := ⟨w.heap.size, 4, none⟩) (by dsimp only; omega) _)
      have XA3 := hid ((((((XA2.out.set 0 (.int .i64 kap)).set 1 (.bool cl)).set 2 (.slice (some ⟨gb, 0, none⟩) b.length bc1)).set 3 (.slice (some ⟨gs, 0, none⟩) s.length sc1)).set 4 (.slice (some ⟨gr, 0, none⟩) r.length rc1)))
      rw [← hV] at XA3
      have XR3 := hid ((((((XR2.out.other (a := ⟨w.heap.size, 0, none⟩) (by dsimp only; omega) (.int .i64 kap)).other (a := ⟨w.heap.size, 1, none⟩) (by dsimp only; omega) (.bool cl)).other (a := ⟨w.heap.size, 2, none⟩) (by dsimp only; omega) (.slice (some ⟨gb, 0, none⟩) b.length bc1)).other (a := ⟨w.heap.size, 3, none⟩) (by dsimp only; omega) (.slice (some ⟨gs, 0, none⟩) s.length sc1)).other (a := ⟨w.heap.size, 4, none⟩) (by dsimp only; omega) (.slice (some ⟨gr, 0, none⟩) r.length rc1)))
      rw [← hV] at XR3
      have XT3 := hid ((((((XT2.out.other (a := ⟨w.heap.size, 0, none⟩) (by dsimp only; omega) (.int .i64 kap)).other (a := ⟨w.heap.size, 1, none⟩) (by dsimp only; omega) (.bool cl)).other (a := ⟨w.heap.size, 2, none⟩) (by dsimp only; omega) (.slice (some ⟨gb, 0, none⟩) b.length bc1)).other (a := ⟨w.heap.size, 3, none⟩) (by dsimp only; omega) (.slice (some ⟨gs, 0, none⟩) s.length sc1)).other (a := ⟨w.heap.size, 4, none⟩) (by dsimp only; omega) (.slice (some ⟨gr, 0, none⟩) r.length rc1)))
      rw [← hV] at XT3
      have F3 := hid ((((((F2.out.setBelow (a := ⟨w.heap.size, 0, none⟩) (by dsimp only; omega) (.int .i64 kap)).setBelow (a := ⟨w.heap.size, 1, none⟩) (by dsimp only; omega) (.bool cl)).setBelow (a := ⟨w.heap.size, 2, none⟩) (by dsimp only; omega) (.slice (some ⟨gb, 0, none⟩) b.length bc1)).setBelow (a := ⟨w.heap.size, 3, none⟩) (by dsimp only; omega) (.slice (some ⟨gs, 0, none⟩) s.length sc1)).setBelow (a := ⟨w.heap.size, 4, none⟩) (by dsimp only; omega) (.slice (some ⟨gr, 0, none⟩) r.length rc1)))
      rw [← hV] at F3
      have H3 : Hid (w3 = (((((w2.setCell ⟨w.heap.size, 0, none⟩ (.int .i64 kap)).setCell ⟨w.heap.size, 1, none⟩ (.bool cl)).setCell ⟨w.heap.size, 2, none⟩ (.slice (some ⟨gb, 0, none⟩) b.length bc1)).setCell ⟨w.heap.size, 3, none⟩ (.slice (some ⟨gs, 0, none⟩) s.length sc1)).setCell ⟨w.heap.size, 4, none⟩ (.slice (some ⟨gr, 0, none⟩) r.length rc1))) := hV
      clear hV XA2 XR2 XT2 F2
      rw [← H3.out]
      clear H3
      obtain ⟨bb, off, ebb, hbb, hcb⟩ := kL_at (OBox.in F3.out).2.1 hsp
      cases ebb
      have d0 := (hcb 0 hsp).1
      have d1 := (hcb 0 hsp).2.1
      have d2 := (hcb 0 hsp).2.2
      rw [HXX.out] at d0 d1 d2
      simp only [Nat.zero_mul, Nat.zero_add, Nat.add_zero] at d0 d1 d2
      clear hcb
      have hcap : s.length ≤ sc1 := (OBox.fr F3.out).2.1.cap
      have hgr := own_at F3.out.2.2.1
      have a0 := XA3.out.c 0 rfl
      have af0 := XA3.out.f 0 rfl
      have a1 := XA3.out.c 1 rfl
      have af1 := XA3.out.f 1 rfl
      have a2 := XA3.out.c 2 rfl
      have af2 := XA3.out.f 2 rfl
      have a3 := XA3.out.c 3 rfl
      have af3 := XA3.out.f 3 rfl
      have a4 := XA3.out.c 4 rfl
      have af4 := XA3.out.f 4 rfl
      have az := XA3.out.size
      have r0 := XR3.out.c 0 rfl
      have rf0 := XR3.out.f 0 rfl
      have r1 := XR3.out.c 1 rfl
      have rf1 := XR3.out.f 1 rfl
      have r2 := XR3.out.c 2 rfl
      have rf2 := XR3.out.f 2 rfl
      have r3 := XR3.out.c 3 rfl
      have rf3 := XR3.out.f 3 rfl
      have r4 := XR3.out.c 4 rfl
      have rf4 := XR3.out.f 4 rfl
      have rz := XR3.out.size
      have t0 := XT3.out.c 0 rfl
      have tf0 := XT3.out.f 0 rfl
      have t1 := XT3.out.c 1 rfl
      have tf1 := XT3.out.f 1 rfl
      have t2 := XT3.out.c 2 rfl
      have tf2 := XT3.out.f 2 rfl
      have tz := XT3.out.size
      go_upto_region 13 with fail
      clear a0 af0 a1 af1 a2 af2 a3 af3 a4 af4 az r0 rf0 r1 rf1 r2 rf2 r3 rf3 r4 rf4 rz t0 tf0 t1 tf1 t2 tf2 tz
      clear d0 d1 d2
      have E5 : x3 + 1 = x4 := E4.out.symm
      rw [E5]
      clear E5
      obtain ⟨w4, hV⟩ : ∃ V, V = w3.alloc (.cells #[.int .i64 x1, .int .i64 x2, .int .i64 x4] 29) := ⟨_, rfl⟩
      have hz4 : w3.heap.size ≤ w4.heap.size := by rw [hV]; simp
      have hs4 : w.heap.size + 1 + 1 + 1 ≤ w4.heap.size := Nat.le_trans hs3 hz4
      have hB4 : Below w.heap.size w w4 := by rw [hV]; exact Below.allocS hB3 _
      have XA4 := hid (XA3.out.alloc (.cells #[.int .i64 x1, .int .i64 x2, .int .i64 x4] 29))
      rw [← hV] at XA4
      have XR4 := hid (XR3.out.alloc (.cells #[.int .i64 x1, .int .i64 x2, .int .i64 x4] 29))
      rw [← hV] at XR4
      have XT4 := hid (XT3.out.alloc (.cells #[.int .i64 x1, .int .i64 x2, .int .i64 x4] 29))
      rw [← hV] at XT4
      have F4 := hid (F3.out.below (below1 w3 (.cells #[.int .i64 x1, .int .i64 x2, .int .i64 x4] 29)))
      rw [← hV] at F4
      have H4 : Hid (w4 = w3.alloc (.cells #[.int .i64 x1, .int .i64 x2, .int .i64 x4] 29)) := hV
      clear hV XA3 XR3 XT3 F3
      have XY4 : Hid (Bx w4 w3.heap.size [.int .i64 x1, .int .i64 x2, .int .i64 x4]) := by rw [H4.out]; exact Bx.new [.int .i64 x1, .int .i64 x2, .int .i64 x4] _ rfl
      have hy4 : w3.heap.size < w4.heap.size := XY4.out.size
      rw [← H4.out]
      clear H4
      have hlen : s.length - 1 = Rs.length := by rw [← HRs.out]; simp
      obtain ⟨ao, hao⟩ : ∃ a : Option Addr, a = (if sc1 = 1 then some ⟨gs, 0, none⟩ else some ⟨gs, 3, none⟩) := ⟨_, rfl⟩
      have HWf : Hid (ao = none → sc1 - 1 = 0) := by intro h; rw [hao] at h; split at h <;> cases h
      have a0 := XA4.out.c 0 rfl
      have af0 := XA4.out.f 0 rfl
      have a1 := XA4.out.c 1 rfl
      have af1 := XA4.out.f 1 rfl
      have a2 := XA4.out.c 2 rfl
      have af2 := XA4.out.f 2 rfl
      have a3 := XA4.out.c 3 rfl
      have af3 := XA4.out.f 3 rfl
      have a4 := XA4.out.c 4 rfl
      have af4 := XA4.out.f 4 rfl
      have az := XA4.out.size
      have r0 := XR4.out.c 0 rfl
      have rf0 := XR4.out.f 0 rfl
      have r1 := XR4.out.c 1 rfl
      have rf1 := XR4.out.f 1 rfl
      have r2 := XR4.out.c 2 rfl
      have rf2 := XR4.out.f 2 rfl
      have r3 := XR4.out.c 3 rfl
      have rf3 := XR4.out.f 3 rfl
      have r4 := XR4.out.c 4 rfl
      have rf4 := XR4.out.f 4 rfl
      have rz := XR4.out.size
      have t0 := XT4.out.c 0 rfl
      have tf0 := XT4.out.f 0 rfl
      have t1 := XT4.out.c 1 rfl
      have tf1 := XT4.out.f 1 rfl
      have t2 := XT4.out.c 2 rfl
      have tf2 := XT4.out.f 2 rfl
      have tz := XT4.out.size
      have y0 := XY4.out.c 0 rfl
      have yf0 := XY4.out.f 0 rfl
      have y1 := XY4.out.c 1 rfl
      have yf1 := XY4.out.f 1 rfl
      have y2 := XY4.out.c 2 rfl
      have yf2 := XY4.out.f 2 rfl
      have yz := XY4.out.size
      go_upto_region 14 with fail
      clear a0 af0 a1 af1 a2 af2 a3 af3 a4 af4 az r0 rf0 r1 rf1 r2 rf2 r3 rf3 r4 rf4 rz t0 tf0 t1 tf1 t2 tf2 tz y0 yf0 y1 yf1 y2 yf2 yz
      rw [← hao]
      have HAO := hid hao
      clear hao hlen
      obtain ⟨w5, hV⟩ : ∃ V, V = (w4.setCell ⟨w.heap.size, 3, none⟩ (.slice ao Rs.length (sc1 - 1))) := ⟨_, rfl⟩
      have hz5 : w4.heap.size ≤ w5.heap.size := by rw [hV]; simp [World.setCell]
      have hs5 : w.heap.size + 1 + 1 + 1 ≤ w5.heap.size := Nat.le_trans hs4 hz5
      have hB5 : Below w.heap.size w w5 := by rw [hV]; exact (hB4.setCell (p := ⟨w.heap.size, 3, none⟩) (by dsimp only; omega) _)
      have XA5 := hid ((XA4.out.set 3 (.slice ao Rs.length (sc1 - 1))))
      rw [← hV] at XA5
      have XR5 := hid ((XR4.out.other (a := ⟨w.heap.size, 3, none⟩) (by dsimp only; omega) (.slice ao Rs.length (sc1 - 1))))
      rw [← hV] at XR5
      have XT5 := hid ((XT4.out.other (a := ⟨w.heap.size, 3, none⟩) (by dsimp only; omega) (.slice ao Rs.length (sc1 - 1))))
      rw [← hV] at XT5
      have XY5 := hid ((XY4.out.other (a := ⟨w.heap.size, 3, none⟩) (by dsimp only; omega) (.slice ao Rs.length (sc1 - 1))))
      rw [← hV] at XY5
      have F5 := hid ((F4.out.setBelow (a := ⟨w.heap.size, 3, none⟩) (by dsimp only; omega) (.slice ao Rs.length (sc1 - 1))))
      rw [← hV] at F5
      have H5 : Hid (w5 = (w4.setCell ⟨w.heap.size, 3, none⟩ (.slice ao Rs.length (sc1 - 1)))) := hV
      clear hV XA4 XR4 XT4 XY4 F4
      rw [← H5.out]
      clear H5
      have a0 := XA5.out.c 0 rfl
      have af0 := XA5.out.f 0 rfl
      have a1 := XA5.out.c 1 rfl
      have af1 := XA5.out.f 1 rfl
      have a2 := XA5.out.c 2 rfl
      have af2 := XA5.out.f 2 rfl
      have a3 := XA5.out.c 3 rfl
      have af3 := XA5.out.f 3 rfl
      have a4 := XA5.out.c 4 rfl
      have af4 := XA5.out.f 4 rfl
      have az := XA5.out.size
      have r0 := XR5.out.c 0 rfl
      have rf0 := XR5.out.f 0 rfl
      have r1 := XR5.out.c 1 rfl
      have rf1 := XR5.out.f 1 rfl
      have r2 := XR5.out.c 2 rfl
      have rf2 := XR5.out.f 2 rfl
      have r3 := XR5.out.c 3 rfl
      have rf3 := XR5.out.f 3 rfl
      have r4 := XR5.out.c 4 rfl
      have rf4 := XR5.out.f 4 rfl
      have rz := XR5.out.size
      have t0 := XT5.out.c 0 rfl
      have tf0 := XT5.out.f 0 rfl
      have t1 := XT5.out.c 1 rfl
      have tf1 := XT5.out.f 1 rfl
      have t2 := XT5.out.c 2 rfl
      have tf2 := XT5.out.f 2 rfl
      have tz := XT5.out.size
      have y0 := XY5.out.c 0 rfl
      have yf0 := XY5.out.f 0 rfl
      have y1 := XY5.out.c 1 rfl
      have yf1 := XY5.out.f 1 rfl
      have y2 := XY5.out.c 2 rfl
      have yf2 := XY5.out.f 2 rfl
      have yz := XY5.out.size
      have FA := hid (F5.out.below (below1 w5 (.cells #[.int .i64 x1, .int .i64 x2, .int .i64 x4] 29)))
      have HN : Hid (kL.In (w5.heap.size + 1) (w5.alloc (.cells #[.int .i64 x1, .int .i64 x2, .int .i64 x4] 29)) (some ⟨w5.heap.size, 0, none⟩) [(x1, x2, x4)]) := kL_one (t := (x1, x2, x4)) (by omega) (by simp) (by simp) (by simp)
      obtain ⟨zs, hzs⟩ : ∃ zs, zs = r ++ [(x1, x2, x4)] := ⟨_, rfl⟩
      have HZS : Hid (zs = r ++ [(x1, x2, x4)]) := hzs
      clear hzs
      have XAA := hid (XA5.out.alloc (.cells #[.int .i64 x1, .int .i64 x2, .int .i64 x4] 29))
      have XAR := hid (XR5.out.alloc (.cells #[.int .i64 x1, .int .i64 x2, .int .i64 x4] 29))
      have XAT := hid (XT5.out.alloc (.cells #[.int .i64 x1, .int .i64 x2, .int .i64 x4] 29))
      have XAY := hid (XY5.out.alloc (.cells #[.int .i64 x1, .int .i64 x2, .int .i64 x4] 29))
      have hBA : Below w.heap.size w (w5.alloc (.cells #[.int .i64 x1, .int .i64 x2, .int .i64 x4] 29)) := Below.allocS hB5 _
      go_upto_region 15 with (at_builtin; have hga := own_at F5.out.2.2.1; refine Kind.appO kL_ok (w5.alloc (.cells #[.int .i64 x1, .int .i64 x2, .int .i64 x4] 29)) rfl (.tmp 53) (.tmp 55) rfl (w1.heap.size) gr r.length rc1 r rfl FA.out.2.2.1 (by simp <;> omega) (some ⟨w5.heap.size, 0, none⟩) [(x1, x2, x4)] 1 1 rfl rfl (by simp) _ HN.out (by simp <;> omega) zs HZS.out ?_; intro g' c' w6 hO hB hG hw; have hB6 : Below w.heap.size w w6 := hBA.trans (hB.mono (by omega)); have hz6 : w5.heap.size ≤ w6.heap.size := (by have := hB.size; simp at this; omega); have hs6 : w.heap.size + 1 + 1 + 1 ≤ w6.heap.size := (by omega); have XA6 := hid (XAA.out.grown hG (by omega)); have XR6 := hid (XAR.out.grown hG (by omega)); have XT6 := hid (XAT.out.grown hG (by omega)); have XY6 := hid (XAY.out.grown hG (by omega)); have F6 := hid (OBox.put2 FA.out hO hG hw); clear hO hB hG hw HN FA hBA hga XAA XA5 XAR XR5 XAT XT5 XAY XY5 a0 af0 a1 af1 a2 af2 a3 af3 a4 af4 az r0 rf0 r1 rf1 r2 rf2 r3 rf3 r4 rf4 rz t0 tf0 t1 tf1 t2 tf2 tz y0 yf0 y1 yf1 y2 yf2 yz; have a0 := XA6.out.c 0 rfl; have af0 := XA6.out.f 0 rfl; have a1 := XA6.out.c 1 rfl; have af1 := XA6.out.f 1 rfl; have a2 := XA6.out.c 2 rfl; have af2 := XA6.out.f 2 rfl; have a3 := XA6.out.c 3 rfl; have af3 := XA6.out.f 3 rfl; have a4 := XA6.out.c 4 rfl; have af4 := XA6.out.f 4 rfl; have az := XA6.out.size; have r0 := XR6.out.c 0 rfl; have rf0 := XR6.out.f 0 rfl; have r1 := XR6.out.c 1 rfl; have rf1 := XR6.out.f 1 rfl; have r2 := XR6.out.c 2 rfl; have rf2 := XR6.out.f 2 rfl; have r3 := XR6.out.c 3 rfl; have rf3 := XR6.out.f 3 rfl; have r4 := XR6.out.c 4 rfl; have rf4 := XR6.out.f 4 rfl; have rz := XR6.out.size; have t0 := XT6.out.c 0 rfl; have tf0 := XT6.out.f 0 rfl; have t1 := XT6.out.c 1 rfl; have tf1 := XT6.out.f 1 rfl; have t2 := XT6.out.c 2 rfl; have tf2 := XT6.out.f 2 rfl; have tz := XT6.out.size; have y0 := XY6.out.c 0 rfl; have yf0 := XY6.out.f 0 rfl; have y1 := XY6.out.c 1 rfl; have yf1 := XY6.out.f 1 rfl; have y2 := XY6.out.c 2 rfl; have yf2 := XY6.out.f 2 rfl; have yz := XY6.out.size)
      clear a0 af0 a1 af1 a2 af2 a3 af3 a4 af4 az r0 rf0 r1 rf1 r2 rf2 r3 rf3 r4 rf4 rz t0 tf0 t1 tf1 t2 tf2 tz y0 yf0 y1 yf1 y2 yf2 yz
      obtain ⟨w7, hV⟩ : ∃ V, V = (w6.setCell ⟨w.heap.size, 4, none⟩ ((.slice (some ⟨g', 0, none⟩) zs.length c'))) := ⟨_, rfl⟩
      have hz7 : w6.heap.size ≤ w7.heap.size := by rw [hV]; simp [World.setCell]
      have hs7 : w.heap.size + 1 + 1 + 1 ≤ w7.heap.size := Nat.le_trans hs6 hz7
      have hB7 : Below w.heap.size w w7 := by rw [hV]; exact (hB6.setCell (p := ⟨w.heap.size, 4, none⟩) (by dsimp only; omega) _)
      have XA7 := hid ((XA6.out.set 4 ((.slice (some ⟨g', 0, none⟩) zs.length c'))))
      rw [← hV] at XA7
      have XR7 := hid ((XR6.out.other (a := ⟨w.heap.size, 4, none⟩) (by dsimp only; omega) ((.slice (some ⟨g', 0, none⟩) zs.length c'))))
      rw [← hV] at XR7
      have XT7 := hid ((XT6.out.other (a := ⟨w.heap.size, 4, none⟩) (by dsimp only; omega) ((.slice (some ⟨g', 0, none⟩) zs.length c'))))
      rw [← hV] at XT7
      have XY7 := hid ((XY6.out.other (a := ⟨w.heap.size, 4, none⟩) (by dsimp only; omega) ((.slice (some ⟨g', 0, none⟩) zs.length c'))))
      rw [← hV] at XY7
      have F7 := hid ((F6.out.setBelow (a := ⟨w.heap.size, 4, none⟩) (by dsimp only; omega) ((.slice (some ⟨g', 0, none⟩) zs.length c'))))
      rw [← hV] at F7
      have H7 : Hid (w7 = (w6.setCell ⟨w.heap.size, 4, none⟩ ((.slice (some ⟨g', 0, none⟩) zs.length c')))) := hV
      clear hV XA6 XR6 XT6 XY6 F6
      rw [← H7.out]
      clear H7
      have HJ : Hid (kL.In w7.heap.size w7 ao Rs) := by
        unfold Hid
        rw [HAO.out, ← HRs.out]
        split
        · refine .inl (List.eq_nil_of_length_eq_zero ?_)
          simp; omega
        · have h := Kind.In.drop ((OBox.in F7.out).2.1) 1
          rw [Nat.zero_add] at h
          exact h
      clear HAO
      have HQ : Hid (InBox w7.heap.size w7 (some ⟨gb, 0, none⟩) b ao Rs (some ⟨g', 0, none⟩) zs) := ⟨(OBox.in F7.out).1, HJ.out, (OBox.in F7.out).2.2⟩
      have hRs2 : Rs.length ≤ 1048576 := by rw [← HRs.out]; simp; omega
      have hzs2 : zs.length ≤ 1048576 := by rw [HZS.out]; simp; omega
      have HZR : Hid (zs = Rr) := HZS.out.trans HRr.out
      have a0 := XA7.out.c 0 rfl
      have af0 := XA7.out.f 0 rfl
      have a1 := XA7.out.c 1 rfl
      have af1 := XA7.out.f 1 rfl
      have a2 := XA7.out.c 2 rfl
      have af2 := XA7.out.f 2 rfl
      have a3 := XA7.out.c 3 rfl
      have af3 := XA7.out.f 3 rfl
      have a4 := XA7.out.c 4 rfl
      have af4 := XA7.out.f 4 rfl
      have az := XA7.out.size
      have r0 := XR7.out.c 0 rfl
      have rf0 := XR7.out.f 0 rfl
      have r1 := XR7.out.c 1 rfl
      have rf1 := XR7.out.f 1 rfl
      have r2 := XR7.out.c 2 rfl
      have rf2 := XR7.out.f 2 rfl
      have r3 := XR7.out.c 3 rfl
      have rf3 := XR7.out.f 3 rfl
      have r4 := XR7.out.c 4 rfl
      have rf4 := XR7.out.f 4 rfl
      have rz := XR7.out.size
      have t0 := XT7.out.c 0 rfl
      have tf0 := XT7.out.f 0 rfl
      have t1 := XT7.out.c 1 rfl
      have tf1 := XT7.out.f 1 rfl
      have t2 := XT7.out.c 2 rfl
      have tf2 := XT7.out.f 2 rfl
      have tz := XT7.out.size
      have y0 := XY7.out.c 0 rfl
      have yf0 := XY7.out.f 0 rfl
      have y1 := XY7.out.c 1 rfl
      have yf1 := XY7.out.f 1 rfl
      have y2 := XY7.out.c 2 rfl
      have yf2 := XY7.out.f 2 rfl
      have yz := XY7.out.size
      go_wp2
      have PD : w7.drew.cell? ⟨w.heap.size, 0, none⟩ = some (.int .i64 kap) ∧ w7.drew.cell? ⟨w.heap.size, 1, none⟩ = some (.bool cl) ∧ w7.drew.cell? ⟨w.heap.size, 2, none⟩ = some (.slice (some ⟨gb, 0, none⟩) b.length bc1) ∧ w7.drew.cell? ⟨w.heap.size, 3, none⟩ = some (.slice ao Rs.length (sc1 - 1)) ∧ w7.drew.cell? ⟨w.heap.size, 4, none⟩ = some ((.slice (some ⟨g', 0, none⟩) zs.length c')) ∧ w7.drew.cell? ⟨w3.heap.size, 0, none⟩ = some (.int .i64 x1) ∧ w7.drew.cell? ⟨w3.heap.size, 1, none⟩ = some (.int .i64 x2) ∧ w7.drew.cell? ⟨w3.heap.size, 2, none⟩ = some (.int .i64 x4) := ⟨a0, a1, a2, a3, a4, y0, y1, y2⟩
      go_region_held3 (fun Y => Y.cell? ⟨w.heap.size, 0, none⟩ = some (.int .i64 kap) ∧ Y.cell? ⟨w.heap.size, 1, none⟩ = some (.bool cl) ∧ Y.cell? ⟨w.heap.size, 2, none⟩ = some (.slice (some ⟨gb, 0, none⟩) b.length bc1) ∧ Y.cell? ⟨w.heap.size, 3, none⟩ = some (.slice ao Rs.length (sc1 - 1)) ∧ Y.cell? ⟨w.heap.size, 4, none⟩ = some ((.slice (some ⟨g', 0, none⟩) zs.length c')) ∧ Y.cell? ⟨w3.heap.size, 0, none⟩ = some (.int .i64 x1) ∧ Y.cell? ⟨w3.heap.size, 1, none⟩ = some (.int .i64 x2) ∧ Y.cell? ⟨w3.heap.size, 2, none⟩ = some (.int .i64 x4))
        (first | ((refine ⟨?_, ?_, ?_, ?_, ?_, ?_, ?_, ?_⟩ <;> (rw [World.cell?_setCell_other _ _ _ _ (by simp <;> omega), World.cell?_setCell_other _ _ _ _ (by simp <;> omega), World.cell?_setCell_other _ _ _ _ (by simp <;> omega), World.cell?_setCell_other _ _ _ _ (by simp <;> omega), World.cell?_setCell_other _ _ _ _ (by simp <;> omega)])); with_reducible exact P8.1; with_reducible exact P8.2.1; with_reducible exact P8.2.2.1; with_reducible exact P8.2.2.2.1; with_reducible exact P8.2.2.2.2.1; with_reducible exact P8.2.2.2.2.2.1; with_reducible exact P8.2.2.2.2.2.2.1; with_reducible exact P8.2.2.2.2.2.2.2) | ((refine ⟨?_, ?_, ?_, ?_, ?_, ?_, ?_, ?_⟩ <;> (rw [World.cell?_setCell_other _ _ _ _ (by simp <;> omega), World.cell?_setCell_other _ _ _ _ (by simp <;> omega), World.cell?_setCell_other _ _ _ _ (by simp <;> omega), World.cell?_setCell_other _ _ _ _ (by simp <;> omega), World.cell?_setCell_other _ _ _ _ (by simp <;> omega), World.cell?_setCell_other _ _ _ _ (by simp <;> omega), World.cell?_setCell_other _ _ _ _ (by simp <;> omega), World.cell?_setCell_other _ _ _ _ (by simp <;> omega)])); with_reducible exact P8.1; with_reducible exact P8.2.1; with_reducible exact P8.2.2.1; with_reducible exact P8.2.2.2.1; with_reducible exact P8.2.2.2.2.1; with_reducible exact P8.2.2.2.2.2.1; with_reducible exact P8.2.2.2.2.2.2.1; with_reducible exact P8.2.2.2.2.2.2.2) | (with_reducible exact ⟨a0, a1, a2, a3, a4, y0, y1, y2⟩) | (with_reducible exact PD) | (with_reducible exact P8))
        (first
          | (go_at_call 17; refine (ownBox_any kap cl (some ⟨gb, 0, none⟩) bc1 b ao (sc1 - 1) Rs (some ⟨g', 0, none⟩) c' zs _ hlb hRs2 hzs2 (by exact InBox.later HQ.out (Below.refl _ _).drew) ⟨by simp, HWf.out, by simp⟩).mono ?_; rintro e w8 ⟨⟨gb2, bc2, gs2, sc2, gr2, rc2, rfl, hF⟩, hy8⟩; have hb8 : Below w7.heap.size w7 w8 := (Below.refl w7.heap.size w7).drew.trans hy8; have hB8 : Below w.heap.size w w8 := hB7.trans (hb8.mono hB7.size); have hs8 : w.heap.size + 1 + 1 + 1 ≤ w8.heap.size := Nat.le_trans hs7 hb8.size; have hz8 : w7.heap.size ≤ w8.heap.size := hb8.size; have XA8 := hid (XA7.out.later hb8); have XR8 := hid (XR7.out.later hb8); have XT8 := hid (XT7.out.later hb8); have XY8 := hid (XY7.out.later hb8); have F8 := hid (F7.out.below hb8); simp only [World.size_drew] at hF; have F2x8 := hid (hF); have P8 := (⟨XA8.out.c 0 rfl, XA8.out.c 1 rfl, XA8.out.c 2 rfl, XA8.out.c 3 rfl, XA8.out.c 4 rfl, XY8.out.c 0 rfl, XY8.out.c 1 rfl, XY8.out.c 2 rfl⟩ : w8.cell? ⟨w.heap.size, 0, none⟩ = some (.int .i64 kap) ∧ w8.cell? ⟨w.heap.size, 1, none⟩ = some (.bool cl) ∧ w8.cell? ⟨w.heap.size, 2, none⟩ = some (.slice (some ⟨gb, 0, none⟩) b.length bc1) ∧ w8.cell? ⟨w.heap.size, 3, none⟩ = some (.slice ao Rs.length (sc1 - 1)) ∧ w8.cell? ⟨w.heap.size, 4, none⟩ = some ((.slice (some ⟨g', 0, none⟩) zs.length c')) ∧ w8.cell? ⟨w3.heap.size, 0, none⟩ = some (.int .i64 x1) ∧ w8.cell? ⟨w3.heap.size, 1, none⟩ = some (.int .i64 x2) ∧ w8.cell? ⟨w3.heap.size, 2, none⟩ = some (.int .i64 x4)); have ag0 := XA8.out.c 0 rfl; have ah0 := XA8.out.f 0 rfl; have ag1 := XA8.out.c 1 rfl; have ah1 := XA8.out.f 1 rfl; have ag2 := XA8.out.c 2 rfl; have ah2 := XA8.out.f 2 rfl; have ag3 := XA8.out.c 3 rfl; have ah3 := XA8.out.f 3 rfl; have ag4 := XA8.out.c 4 rfl; have ah4 := XA8.out.f 4 rfl; have rg0 := XR8.out.c 0 rfl; have rh0 := XR8.out.f 0 rfl; have rg1 := XR8.out.c 1 rfl; have rh1 := XR8.out.f 1 rfl; have rg2 := XR8.out.c 2 rfl; have rh2 := XR8.out.f 2 rfl; have rg3 := XR8.out.c 3 rfl; have rh3 := XR8.out.f 3 rfl; have rg4 := XR8.out.c 4 rfl; have rh4 := XR8.out.f 4 rfl; have tg0 := XT8.out.c 0 rfl; have th0 := XT8.out.f 0 rfl; have tg1 := XT8.out.c 1 rfl; have th1 := XT8.out.f 1 rfl; have tg2 := XT8.out.c 2 rfl; have th2 := XT8.out.f 2 rfl; have yg0 := XY8.out.c 0 rfl; have yh0 := XY8.out.f 0 rfl; have yg1 := XY8.out.c 1 rfl; have yh1 := XY8.out.f 1 rfl; have yg2 := XY8.out.c 2 rfl; have yh2 := XY8.out.f 2 rfl; clear hy8 hb8 hF))
      all_goals
        go_wp2
        refine bodyPost_ret (v := .tuple #[.agg #[.int .i64 kap, .bool cl, .slice (some ⟨gb2, 0, none⟩) b.length bc2, .slice (some ⟨gs2, 0, none⟩) Rs.length sc2, .slice (some ⟨gr2, 0, none⟩) zs.length rc2], .int .i64 0, .agg #[.int .i64 x1, .int .i64 x2, .int .i64 x4], .int .i64 0]) (by simp [results, Try.results6, go_sem, rg0, rg1, rg2, rg3, rg4, tg0, tg1, tg2]) rfl ?_
        rw [HR.out, ← HZR.out]
        exact ⟨⟨_, _, _, _, _, _, rfl, (FrBox.wide (OBox.fr ((((((((F2x8.out.setBelow (a := ⟨w.heap.size + 1, 0, none⟩) (by dsimp only; omega) _).setBelow (a := ⟨w.heap.size + 1, 1, none⟩) (by dsimp only; omega) _).setBelow (a := ⟨w.heap.size + 1, 2, none⟩) (by dsimp only; omega) _).setBelow (a := ⟨w.heap.size + 1, 3, none⟩) (by dsimp only; omega) _).setBelow (a := ⟨w.heap.size + 1, 4, none⟩) (by dsimp only; omega) _).setBelow (a := ⟨w.heap.size + 1 + 1, 0, none⟩) (by dsimp only; omega) _).setBelow (a := ⟨w.heap.size + 1 + 1, 1, none⟩) (by dsimp only; omega) _).setBelow (a := ⟨w.heap.size + 1 + 1, 2, none⟩) (by dsimp only; omega) _)) (by omega) (Nat.le_refl _)).low (Nat.le_refl _)⟩, ((((((((hB8.setCell (p := ⟨w.heap.size + 1, 0, none⟩) (by dsimp only; omega) _).setCell (p := ⟨w.heap.size + 1, 1, none⟩) (by dsimp only; omega) _).setCell (p := ⟨w.heap.size + 1, 2, none⟩) (by dsimp only; omega) _).setCell (p := ⟨w.heap.size + 1, 3, none⟩) (by dsimp only; omega) _).setCell (p := ⟨w.heap.size + 1, 4, none⟩) (by dsimp only; omega) _).setCell (p := ⟨w.heap.size + 1 + 1, 0, none⟩) (by dsimp only; omega) _).setCell (p := ⟨w.heap.size + 1 + 1, 1, none⟩) (by dsimp only; omega) _).setCell (p := ⟨w.heap.size + 1 + 1, 2, none⟩) (by dsimp only; omega) _)⟩
    · have hlt3' : decide (x3 < 1000) = false := by simpa using hlt3
      have e4 : x4 = x3 := by rw [← hx4, tryV, if_neg hlt3]
      have E4 := hid e4
      clear hx4 e4
      obtain ⟨w0, hw0⟩ : ∃ w0, w0 = (((w.alloc (.cells #[.int .i64 kap, .bool cl, .slice bo b.length bc, .slice so s.length sc, .slice ro r.length rc] 26)).alloc (.cells #[.int .i64 0, .bool false, .slice none 0 0, .slice none 0 0, .slice none 0 0] 26)).alloc (.cells #[.int .i64 0, .int .i64 0, .int .i64 0] 29)) := ⟨_, rfl⟩
      have hB0 : Below w.heap.size w w0 := by rw [hw0]; exact Below.allocS (Below.allocS (Below.allocS (Below.refl _ _) _) _) _
      have XA0 : Hid (Bx w0 (w.heap.size) [.int .i64 kap, .bool cl, .slice bo b.length bc, .slice so s.length sc, .slice ro r.length rc]) := by rw [hw0]; exact Bx.alloc (Bx.alloc (Bx.new [.int .i64 kap, .bool cl, .slice bo b.length bc, .slice so s.length sc, .slice ro r.length rc] _ rfl) _) _
      have XR0 : Hid (Bx w0 (w.heap.size + 1) [.int .i64 0, .bool false, .slice none 0 0, .slice none 0 0, .slice none 0 0]) := by rw [hw0]; exact Bx.alloc (Bx.new [.int .i64 0, .bool false, .slice none 0 0, .slice none 0 0, .slice none 0 0] _ (by simp)) _
      have XT0 : Hid (Bx w0 (w.heap.size + 1 + 1) [.int .i64 0, .int .i64 0, .int .i64 0]) := by rw [hw0]; exact Bx.new [.int .i64 0, .int .i64 0, .int .i64 0] _ (by simp)
      have H0 : Hid (w0 = (((w.alloc (.cells #[.int .i64 kap, .bool cl, .slice bo b.length bc, .slice so s.length sc, .slice ro r.length rc] 26)).alloc (.cells #[.int .i64 0, .bool false, .slice none 0 0, .slice none 0 0, .slice none 0 0] 26)).alloc (.cells #[.int .i64 0, .int .i64 0, .int .i64 0] 29))) := hw0
      have hs0 : w.heap.size + 1 + 1 + 1 ≤ w0.heap.size := by rw [hw0]; simp
      clear hw0
      go_enter Try.func6, Try.ntmps6
      go_wp2_with fail
      rw [← H0.out]
      refine (specGood_is kap cl bo bc b so sc s ro rc r w0 true hlb hls hlr (hz.later hB0) HG.out).mono ?_
      rintro e w1 ⟨rfl, hb1⟩
      have hB1 := hB0.trans (hb1.mono hB0.size)
      have hs1 : w.heap.size + 1 + 1 + 1 ≤ w1.heap.size := Nat.le_trans hs0 hb1.size
      have hz1 : w0.heap.size ≤ w1.heap.size := hb1.size
      have XA1 := hid (XA0.out.later hb1)
      have XR1 := hid (XR0.out.later hb1)
      have XT1 := hid (XT0.out.later hb1)
      clear XA0 XR0 XT0
      clear hb1
      have a0 := XA1.out.c 0 rfl
      have af0 := XA1.out.f 0 rfl
      have a1 := XA1.out.c 1 rfl
      have af1 := XA1.out.f 1 rfl
      have a2 := XA1.out.c 2 rfl
      have af2 := XA1.out.f 2 rfl
      have a3 := XA1.out.c 3 rfl
      have af3 := XA1.out.f 3 rfl
      have a4 := XA1.out.c 4 rfl
      have af4 := XA1.out.f 4 rfl
      have az := XA1.out.size
      have r0 := XR1.out.c 0 rfl
      have rf0 := XR1.out.f 0 rfl
      have r1 := XR1.out.c 1 rfl
      have rf1 := XR1.out.f 1 rfl
      have r2 := XR1.out.c 2 rfl
      have rf2 := XR1.out.f 2 rfl
      have r3 := XR1.out.c 3 rfl
      have rf3 := XR1.out.f 3 rfl
      have r4 := XR1.out.c 4 rfl
      have rf4 := XR1.out.f 4 rfl
      have rz := XR1.out.size
      have t0 := XT1.out.c 0 rfl
      have tf0 := XT1.out.f 0 rfl
      have t1 := XT1.out.c 1 rfl
      have tf1 := XT1.out.f 1 rfl
      have t2 := XT1.out.c 2 rfl
      have tf2 := XT1.out.f 2 rfl
      have tz := XT1.out.size
      go_wp2_with fail
      clear a0 af0 a1 af1 a2 af2 a3 af3 a4 af4 az r0 rf0 r1 rf1 r2 rf2 r3 rf3 r4 rf4 rz t0 tf0 t1 tf1 t2 tf2 tz
      refine (ownBox_any kap cl bo bc b so sc s ro rc r w1 hlb hls hlr (hz.later hB1) hwf).mono ?_
      rintro e w2 ⟨⟨gb, bc1, gs, sc1, gr, rc1, rfl, hF⟩, hb2⟩
      have hB2 := hB1.trans (hb2.mono hB1.size)
      have hs2 : w.heap.size + 1 + 1 + 1 ≤ w2.heap.size := Nat.le_trans hs1 hb2.size
      have hz2 : w1.heap.size ≤ w2.heap.size := hb2.size
      have XA2 := hid (XA1.out.later hb2)
      have XR2 := hid (XR1.out.later hb2)
      have XT2 := hid (XT1.out.later hb2)
      clear XA1 XR1 XT1
      have F2 := hid (hF)
      clear hb2 hF
      have a0 := XA2.out.c 0 rfl
      have af0 := XA2.out.f 0 rfl
      have a1 := XA2.out.c 1 rfl
      have af1 := XA2.out.f 1 rfl
      have a2 := XA2.out.c 2 rfl
      have af2 := XA2.out.f 2 rfl
      have a3 := XA2.out.c 3 rfl
      have af3 := XA2.out.f 3 rfl
      have a4 := XA2.out.c 4 rfl
      have af4 := XA2.out.f 4 rfl
      have az := XA2.out.size
      have r0 := XR2.out.c 0 rfl
      have rf0 := XR2.out.f 0 rfl
      have r1 := XR2.out.c 1 rfl
      have rf1 := XR2.out.f 1 rfl
      have r2 := XR2.out.c 2 rfl
      have rf2 := XR2.out.f 2 rfl
      have r3 := XR2.out.c 3 rfl
      have rf3 := XR2.out.f 3 rfl
      have r4 := XR2.out.c 4 rfl
      have rf4 := XR2.out.f 4 rfl
      have rz := XR2.out.size
      have t0 := XT2.out.c 0 rfl
      have tf0 := XT2.out.f 0 rfl
      have t1 := XT2.out.c 1 rfl
      have tf1 := XT2.out.f 1 rfl
      have t2 := XT2.out.c 2 rfl
      have tf2 := XT2.out.f 2 rfl
      have tz := XT2.out.size
      go_upto_region 4 with fail
      clear a0 af0 a1 af1 a2 af2 a3 af3 a4 af4 az r0 rf0 r1 rf1 r2 rf2 r3 rf3 r4 rf4 rz t0 tf0 t1 tf1 t2 tf2 tz
      obtain ⟨w3, hV⟩ : ∃ V, V = (((((w2.setCell ⟨w.heap.size, 0, none⟩ (.int .i64 kap)).setCell ⟨w.heap.size, 1, none⟩ (.bool cl)).setCell ⟨w.heap.size, 2, none⟩ (.slice (some ⟨gb, 0, none⟩) b.length bc1)).setCell ⟨w.heap.size, 3, none⟩ (.slice (some ⟨gs, 0, none⟩) s.length sc1)).setCell ⟨w.heap.size, 4, none⟩ (.slice (some ⟨gr, 0, none⟩) r.length rc1)) := ⟨_, rfl⟩
      have hz3 : w2.heap.size ≤ w3.heap.size := by rw [hV]; simp [World.setCell]
      have hs3 : w.heap.size + 1 + 1 + 1 ≤ w3.heap.size := Nat.le_trans hs2 hz3
      have hB3 : Below w.heap.size w w3 := by rw [hV]; exact (((((hB2.setCell (p := ⟨w.heap.size, 0, none⟩) (by dsimp only; omega) _).setCell (p := ⟨w.heap.size, 1, none⟩) (by dsimp only; omega) _).setCell (p := ⟨w.heap.size, 2, none⟩) (by dsimp only; omega) _).setCell (p := ⟨w.heap.size, 3, none⟩) (by dsimp only; omega) _).setCell (p := ⟨w.heap.size, 4, none⟩) (by dsimp only; omega) _)
      have XA3 := hid ((((((XA2.out.set 0 (.int .i64 kap)).set 1 (.bool cl)).set 2 (.slice (some ⟨gb, 0, none⟩) b.length bc1)).set 3 (.slice (some ⟨gs, 0, none⟩) s.length sc1)).set 4 (.slice (some ⟨gr, 0, none⟩) r.length rc1)))
      rw [← hV] at XA3
      have XR3 := hid ((((((XR2.out.other (a := ⟨w.heap.size, 0, none⟩) (by dsimp only; omega) (.int .i64 kap)).other (a := ⟨w.heap.size, 1, none⟩) (by dsimp only; omega) (.bool cl)).other (a := ⟨w.heap.size, 2, none⟩) (by dsimp only; omega) (.slice (some ⟨gb, 0, none⟩) b.length bc1)).other (a := ⟨w.heap.size, 3, none⟩) (by dsimp only; omega) (.slice (some ⟨gs, 0, none⟩) s.length sc1)).other (a := ⟨w.heap.size, 4, none⟩) (by dsimp only; omega) (.slice (some ⟨gr, 0, none⟩) r.length rc1)))
      rw [← hV] at XR3
      have XT3 := hid ((((((XT2.out.other (a := ⟨w.heap.size, 0, none⟩) (by dsimp only; omega) (.int .i64 kap)).other (a := ⟨w.heap.size, 1, none⟩) (by dsimp only; omega) (.bool cl)).other (a := ⟨w.heap.size, 2, none⟩) (by dsimp only; omega) (.slice (some ⟨gb, 0, none⟩) b.length bc1)).other (a := ⟨w.heap.size, 3, none⟩) (by dsimp only; omega) (.slice (some ⟨gs, 0, none⟩) s.length sc1)).other (a := ⟨w.heap.size, 4, none⟩) (by dsimp only; omega) (.slice (some ⟨gr, 0, none⟩) r.length rc1)))
      rw [← hV] at XT3
      have F3 := hid ((((((F2.out.setBelow (a := ⟨w.heap.size, 0, none⟩) (by dsimp only; omega) (.int .i64 kap)).setBelow (a := ⟨w.heap.size, 1, none⟩) (by dsimp only; omega) (.bool cl)).setBelow (a := ⟨w.heap.size, 2, none⟩) (by dsimp only; omega) (.slice (some ⟨gb, 0, none⟩) b.length bc1)).setBelow (a := ⟨w.heap.size, 3, none⟩) (by dsimp only; omega) (.slice (some ⟨gs, 0, none⟩) s.length sc1)).setBelow (a := ⟨w.heap.size, 4, none⟩) (by dsimp only; omega) (.slice (some ⟨gr, 0, none⟩) r.length rc1)))
      rw [← hV] at F3
      have H3 : Hid (w3 = (((((w2.setCell ⟨w.heap.size, 0, none⟩ (.int .i64 kap)).setCell ⟨w.heap.size, 1, none⟩ (.bool cl)).setCell ⟨w.heap.size, 2, none⟩ (.slice (some ⟨gb, 0, none⟩) b.length bc1)).setCell ⟨w.heap.size, 3, none⟩ (.slice (some ⟨gs, 0, none⟩) s.length sc1)).setCell ⟨w.heap.size, 4, none⟩ (.slice (some ⟨gr, 0, none⟩) r.length rc1))) := hV
      clear hV XA2 XR2 XT2 F2
      rw [← H3.out]
      clear H3
      obtain ⟨bb, off, ebb, hbb, hcb⟩ := kL_at (OBox.in F3.out).2.1 hsp
      cases ebb
      have d0 := (hcb 0 hsp).1
      have d1 := (hcb 0 hsp).2.1
      have d2 := (hcb 0 hsp).2.2
      rw [HXX.out] at d0 d1 d2
      simp only [Nat.zero_mul, Nat.zero_add, Nat.add_zero] at d0 d1 d2
      clear hcb
      have hcap : s.length ≤ sc1 := (OBox.fr F3.out).2.1.cap
      have hgr := own_at F3.out.2.2.1
      have a0 := XA3.out.c 0 rfl
      have af0 := XA3.out.f 0 rfl
      have a1 := XA3.out.c 1 rfl
      have af1 := XA3.out.f 1 rfl
      have a2 := XA3.out.c 2 rfl
      have af2 := XA3.out.f 2 rfl
      have a3 := XA3.out.c 3 rfl
      have af3 := XA3.out.f 3 rfl
      have a4 := XA3.out.c 4 rfl
      have af4 := XA3.out.f 4 rfl
      have az := XA3.out.size
      have r0 := XR3.out.c 0 rfl
      have rf0 := XR3.out.f 0 rfl
      have r1 := XR3.out.c 1 rfl
      have rf1 := XR3.out.f 1 rfl
      have r2 := XR3.out.c 2 rfl
      have rf2 := XR3.out.f 2 rfl
      have r3 := XR3.out.c 3 rfl
      have rf3 := XR3.out.f 3 rfl
      have r4 := XR3.out.c 4 rfl
      have rf4 := XR3.out.f 4 rfl
      have rz := XR3.out.size
      have t0 := XT3.out.c 0 rfl
      have tf0 := XT3.out.f 0 rfl
      have t1 := XT3.out.c 1 rfl
      have tf1 := XT3.out.f 1 rfl
      have t2 := XT3.out.c 2 rfl
      have tf2 := XT3.out.f 2 rfl
      have tz := XT3.out.size
      go_upto_region 13 with fail
      clear a0 af0 a1 af1 a2 af2 a3 af3 a4 af4 az r0 rf0 r1 rf1 r2 rf2 r3 rf3 r4 rf4 rz t0 tf0 t1 tf1 t2 tf2 tz
      clear d0 d1 d2
      have E5 : x3 = x4 := E4.out.symm
      subst E5
      obtain ⟨w4, hV⟩ : ∃ V, V = w3.alloc (.cells #[.int .i64 x1, .int .i64 x2, .int .i64 x3] 29) := ⟨_, rfl⟩
      have hz4 : w3.heap.size ≤ w4.heap.size := by rw [hV]; simp
      have hs4 : w.heap.size + 1 + 1 + 1 ≤ w4.heap.size := Nat.le_trans hs3 hz4
      have hB4 : Below w.heap.size w w4 := by rw [hV]; exact Below.allocS hB3 _
      have XA4 := hid (XA3.out.alloc (.cells #[.int .i64 x1, .int .i64 x2, .int .i64 x3] 29))
      rw [← hV] at XA4
      have XR4 := hid (XR3.out.alloc (.cells #[.int .i64 x1, .int .i64 x2, .int .i64 x3] 29))
      rw [← hV] at XR4
      have XT4 := hid (XT3.out.alloc (.cells #[.int .i64 x1, .int .i64 x2, .int .i64 x3] 29))
      rw [← hV] at XT4
      have F4 := hid (F3.out.below (below1 w3 (.cells #[.int .i64 x1, .int .i64 x2, .int .i64 x3] 29)))
      rw [← hV] at F4
      have H4 : Hid (w4 = w3.alloc (.cells #[.int .i64 x1, .int .i64 x2, .int .i64 x3] 29)) := hV
      clear hV XA3 XR3 XT3 F3
      have XY4 : Hid (Bx w4 w3.heap.size [.int .i64 x1, .int .i64 x2, .int .i64 x3]) := by rw [H4.out]; exact Bx.new [.int .i64 x1, .int .i64 x2, .int .i64 x3] _ rfl
      have hy4 : w3.heap.size < w4.heap.size := XY4.out.size
      rw [← H4.out]
      clear H4
      have hlen : s.length - 1 = Rs.length := by rw [← HRs.out]; simp
      obtain ⟨ao, hao⟩ : ∃ a : Option Addr, a = (if sc1 = 1 then some ⟨gs, 0, none⟩ else some ⟨gs, 3, none⟩) := ⟨_, rfl⟩
      have HWf : Hid (ao = none → sc1 - 1 = 0) := by intro h; rw [hao] at h; split at h <;> cases h
      have a0 := XA4.out.c 0 rfl
      have af0 := XA4.out.f 0 rfl
      have a1 := XA4.out.c 1 rfl
      have af1 := XA4.out.f 1 rfl
      have a2 := XA4.out.c 2 rfl
      have af2 := XA4.out.f 2 rfl
      have a3 := XA4.out.c 3 rfl
      have af3 := XA4.out.f 3 rfl
      have a4 := XA4.out.c 4 rfl
      have af4 := XA4.out.f 4 rfl
      have az := XA4.out.size
      have r0 := XR4.out.c 0 rfl
      have rf0 := XR4.out.f 0 rfl
      have r1 := XR4.out.c 1 rfl
      have rf1 := XR4.out.f 1 rfl
      have r2 := XR4.out.c 2 rfl
      have rf2 := XR4.out.f 2 rfl
      have r3 := XR4.out.c 3 rfl
      have rf3 := XR4.out.f 3 rfl
      have r4 := XR4.out.c 4 rfl
      have rf4 := XR4.out.f 4 rfl
      have rz := XR4.out.size
      have t0 := XT4.out.c 0 rfl
      have tf0 := XT4.out.f 0 rfl
      have t1 := XT4.out.c 1 rfl
      have tf1 := XT4.out.f 1 rfl
      have t2 := XT4.out.c 2 rfl
      have tf2 := XT4.out.f 2 rfl
      have tz := XT4.out.size
      have y0 := XY4.out.c 0 rfl
      have yf0 := XY4.out.f 0 rfl
      have y1 := XY4.out.c 1 rfl
      have yf1 := XY4.out.f 1 rfl
      have y2 := XY4.out.c 2 rfl
      have yf2 := XY4.out.f 2 rfl
      have yz := XY4.out.size
      go_upto_region 14 with fail
      clear a0 af0 a1 af1 a2 af2 a3 af3 a4 af4 az r0 rf0 r1 rf1 r2 rf2 r3 rf3 r4 rf4 rz t0 tf0 t1 tf1 t2 tf2 tz y0 yf0 y1 yf1 y2 yf2 yz
      rw [← hao]
      have HAO := hid hao
      clear hao hlen
      obtain ⟨w5, hV⟩ : ∃ V, V = (w4.setCell ⟨w.heap.size, 3, none⟩ (.slice ao Rs.length (sc1 - 1))) := ⟨_, rfl⟩
      have hz5 : w4.heap.size ≤ w5.heap.size := by rw [hV]; simp [World.setCell]
      have hs5 : w.heap.size + 1 + 1 + 1 ≤ w5.heap.size := Nat.le_trans hs4 hz5
      have hB5 : Below w.heap.size w w5 := by rw [hV]; exact (hB4.setCell (p := ⟨w.heap.size, 3, none⟩) (by dsimp only; omega) _)
      have XA5 := hid ((XA4.out.set 3 (.slice ao Rs.length (sc1 - 1))))
      rw [← hV] at XA5
      have XR5 := hid ((XR4.out.other (a := ⟨w.heap.size, 3, none⟩) (by dsimp only; omega) (.slice ao Rs.length (sc1 - 1))))
      rw [← hV] at XR5
      have XT5 := hid ((XT4.out.other (a := ⟨w.heap.size, 3, none⟩) (by dsimp only; omega) (.slice ao Rs.length (sc1 - 1))))
      rw [← hV] at XT5
      have XY5 := hid ((XY4.out.other (a := ⟨w.heap.size, 3, none⟩) (by dsimp only; omega) (.slice ao Rs.length (sc1 - 1))))
      rw [← hV] at XY5
      have F5 := hid ((F4.out.setBelow (a := ⟨w.heap.size, 3, none⟩) (by dsimp only; omega) (.slice ao Rs.length (sc1 - 1))))
      rw [← hV] at F5
      have H5 : Hid (w5 = (w4.setCell ⟨w.heap.size, 3, none⟩ (.slice ao Rs.length (sc1 - 1)))) := hV
      clear hV XA4 XR4 XT4 XY4 F4
      rw [← H5.out]
      clear H5
      have a0 := XA5.out.c 0 rfl
      have af0 := XA5.out.f 0 rfl
      have a1 := XA5.out.c 1 rfl
      have af1 := XA5.out.f 1 rfl
      have a2 := XA5.out.c 2 rfl
      have af2 := XA5.out.f 2 rfl
      have a3 := XA5.out.c 3 rfl
      have af3 := XA5.out.f 3 rfl
      have a4 := XA5.out.c 4 rfl
      have af4 := XA5.out.f 4 rfl
      have az := XA5.out.size
      have r0 := XR5.out.c 0 rfl
      have rf0 := XR5.out.f 0 rfl
      have r1 := XR5.out.c 1 rfl
      have rf1 := XR5.out.f 1 rfl
      have r2 := XR5.out.c 2 rfl
      have rf2 := XR5.out.f 2 rfl
      have r3 := XR5.out.c 3 rfl
      have rf3 := XR5.out.f 3 rfl
      have r4 := XR5.out.c 4 rfl
      have rf4 := XR5.out.f 4 rfl
      have rz := XR5.out.size
      have t0 := XT5.out.c 0 rfl
      have tf0 := XT5.out.f 0 rfl
      have t1 := XT5.out.c 1 rfl
      have tf1 := XT5.out.f 1 rfl
      have t2 := XT5.out.c 2 rfl
      have tf2 := XT5.out.f 2 rfl
      have tz := XT5.out.size
      have y0 := XY5.out.c 0 rfl
      have yf0 := XY5.out.f 0 rfl
      have y1 := XY5.out.c 1 rfl
      have yf1 := XY5.out.f 1 rfl
      have y2 := XY5.out.c 2 rfl
      have yf2 := XY5.out.f 2 rfl
      have yz := XY5.out.size
      have FA := hid (F5.out.below (below1 w5 (.cells #[.int .i64 x1, .int .i64 x2, .int .i64 x3] 29)))
      have HN : Hid (kL.In (w5.heap.size + 1) (w5.alloc (.cells #[.int .i64 x1, .int .i64 x2, .int .i64 x3] 29)) (some ⟨w5.heap.size, 0, none⟩) [(x1, x2, x3)]) := kL_one (t := (x1, x2, x3)) (by omega) (by simp) (by simp) (by simp)
      obtain ⟨zs, hzs⟩ : ∃ zs, zs = r ++ [(x1, x2, x3)] := ⟨_, rfl⟩
      have HZS : Hid (zs = r ++ [(x1, x2, x3)]) := hzs
      clear hzs
      have XAA := hid (XA5.out.alloc (.cells #[.int .i64 x1, .int .i64 x2, .int .i64 x3] 29))
      have XAR := hid (XR5.out.alloc (.cells #[.int .i64 x1, .int .i64 x2, .int .i64 x3] 29))
      have XAT := hid (XT5.out.alloc (.cells #[.int .i64 x1, .int .i64 x2, .int .i64 x3] 29))
      have XAY := hid (XY5.out.alloc (.cells #[.int .i64 x1, .int .i64 x2, .int .i64 x3] 29))
      have hBA : Below w.heap.size w (w5.alloc (.cells #[.int .i64 x1, .int .i64 x2, .int .i64 x3] 29)) := Below.allocS hB5 _
      go_upto_region 15 with (at_builtin; have hga := own_at F5.out.2.2.1; refine Kind.appO kL_ok (w5.alloc (.cells #[.int .i64 x1, .int .i64 x2, .int .i64 x3] 29)) rfl (.tmp 53) (.tmp 55) rfl (w1.heap.size) gr r.length rc1 r rfl FA.out.2.2.1 (by simp <;> omega) (some ⟨w5.heap.size, 0, none⟩) [(x1, x2, x3)] 1 1 rfl rfl (by simp) _ HN.out (by simp <;> omega) zs HZS.out ?_; intro g' c' w6 hO hB hG hw; have hB6 : Below w.heap.size w w6 := hBA.trans (hB.mono (by omega)); have hz6 : w5.heap.size ≤ w6.heap.size := (by have := hB.size; simp at this; omega); have hs6 : w.heap.size + 1 + 1 + 1 ≤ w6.heap.size := (by omega); have XA6 := hid (XAA.out.grown hG (by omega)); have XR6 := hid (XAR.out.grown hG (by omega)); have XT6 := hid (XAT.out.grown hG (by omega)); have XY6 := hid (XAY.out.grown hG (by omega)); have F6 := hid (OBox.put2 FA.out hO hG hw); clear hO hB hG hw HN FA hBA hga XAA XA5 XAR XR5 XAT XT5 XAY XY5 a0 af0 a1 af1 a2 af2 a3 af3 a4 af4 az r0 rf0 r1 rf1 r2 rf2 r3 rf3 r4 rf4 rz t0 tf0 t1 tf1 t2 tf2 tz y0 yf0 y1 yf1 y2 yf2 yz; have a0 := XA6.out.c 0 rfl; have af0 := XA6.out.f 0 rfl; have a1 := XA6.out.c 1 rfl; have af1 := XA6.out.f 1 rfl; have a2 := XA6.out.c 2 rfl; have af2 := XA6.out.f 2 rfl; have a3 := XA6.out.c 3 rfl; have af3 := XA6.out.f 3 rfl; have a4 := XA6.out.c 4 rfl; have af4 := XA6.out.f 4 rfl; have az := XA6.out.size; have r0 := XR6.out.c 0 rfl; have rf0 := XR6.out.f 0 rfl; have r1 := XR6.out.c 1 rfl; have rf1 := XR6.out.f 1 rfl; have r2 := XR6.out.c 2 rfl; have rf2 := XR6.out.f 2 rfl; have r3 := XR6.out.c 3 rfl; have rf3 := XR6.out.f 3 rfl; have r4 := XR6.out.c 4 rfl; have rf4 := XR6.out.f 4 rfl; have rz := XR6.out.size; have t0 := XT6.out.c 0 rfl; have tf0 := XT6.out.f 0 rfl; have t1 := XT6.out.c 1 rfl; have tf1 := XT6.out.f 1 rfl; have t2 := XT6.out.c 2 rfl; have tf2 := XT6.out.f 2 rfl; have tz := XT6.out.size; have y0 := XY6.out.c 0 rfl; have yf0 := XY6.out.f 0 rfl; have y1 := XY6.out.c 1 rfl; have yf1 := XY6.out.f 1 rfl; have y2 := XY6.out.c 2 rfl; have yf2 := XY6.out.f 2 rfl; have yz := XY6.out.size)
      clear a0 af0 a1 af1 a2 af2 a3 af3 a4 af4 az r0 rf0 r1 rf1 r2 rf2 r3 rf3 r4 rf4 rz t0 tf0 t1 tf1 t2 tf2 tz y0 yf0 y1 yf1 y2 yf2 yz
      obtain ⟨w7, hV⟩ : ∃ V, V = (w6.setCell ⟨w.heap.size, 4, none⟩ ((.slice (some ⟨g', 0, none⟩) zs.length c'))) := ⟨_, rfl⟩
      have hz7 : w6.heap.size ≤ w7.heap.size := by rw [hV]; simp [World.setCell]
      have hs7 : w.heap.size + 1 + 1 + 1 ≤ w7.heap.size := Nat.le_trans hs6 hz7
      have hB7 : Below w.heap.size w w7 := by rw [hV]; exact (hB6.setCell (p := ⟨w.heap.size, 4, none⟩) (by dsimp only; omega) _)
      have XA7 := hid ((XA6.out.set 4 ((.slice (some ⟨g', 0, none⟩) zs.length c'))))
      rw [← hV] at XA7
      have XR7 := hid ((XR6.out.other (a := ⟨w.heap.size, 4, none⟩) (by dsimp only; omega) ((.slice (some ⟨g', 0, none⟩) zs.length c'))))
      rw [← hV] at XR7
      have XT7 := hid ((XT6.out.other (a := ⟨w.heap.size, 4, none⟩) (by dsimp only; omega) ((.slice (some ⟨g', 0, none⟩) zs.length c'))))
      rw [← hV] at XT7
      have XY7 := hid ((XY6.out.other (a := ⟨w.heap.size, 4, none⟩) (by dsimp only; omega) ((.slice (some ⟨g', 0, none⟩) zs.length c'))))
      rw [← hV] at XY7
      have F7 := hid ((F6.out.setBelow (a := ⟨w.heap.size, 4, none⟩) (by dsimp only; omega) ((.slice (some ⟨g', 0, none⟩) zs.length c'))))
      rw [← hV] at F7
      have H7 : Hid (w7 = (w6.setCell ⟨w.heap.size, 4, none⟩ ((.slice (some ⟨g', 0, none⟩) zs.length c')))) := hV
      clear hV XA6 XR6 XT6 XY6 F6
      rw [← H7.out]
      clear H7
      have HJ : Hid (kL.In w7.heap.size w7 ao Rs) := by
        unfold Hid
        rw [HAO.out, ← HRs.out]
        split
        · refine .inl (List.eq_nil_of_length_eq_zero ?_)
          simp; omega
        · have h := Kind.In.drop ((OBox.in F7.out).2.1) 1
          rw [Nat.zero_add] at h
          exact h
      clear HAO
      have HQ : Hid (InBox w7.heap.size w7 (some ⟨gb, 0, none⟩) b ao Rs (some ⟨g', 0, none⟩) zs) := ⟨(OBox.in F7.out).1, HJ.out, (OBox.in F7.out).2.2⟩
      have hRs2 : Rs.length ≤ 1048576 := by rw [← HRs.out]; simp; omega
      have hzs2 : zs.length ≤ 1048576 := by rw [HZS.out]; simp; omega
      have HZR : Hid (zs = Rr) := HZS.out.trans HRr.out
      have a0 := XA7.out.c 0 rfl
      have af0 := XA7.out.f 0 rfl
      have a1 := XA7.out.c 1 rfl
      have af1 := XA7.out.f 1 rfl
      have a2 := XA7.out.c 2 rfl
      have af2 := XA7.out.f 2 rfl
      have a3 := XA7.out.c 3 rfl
      have af3 := XA7.out.f 3 rfl
      have a4 := XA7.out.c 4 rfl
      have af4 := XA7.out.f 4 rfl
      have az := XA7.out.size
      have r0 := XR7.out.c 0 rfl
      have rf0 := XR7.out.f 0 rfl
      have r1 := XR7.out.c 1 rfl
      have rf1 := XR7.out.f 1 rfl
      have r2 := XR7.out.c 2 rfl
      have rf2 := XR7.out.f 2 rfl
      have r3 := XR7.out.c 3 rfl
      have rf3 := XR7.out.f 3 rfl
      have r4 := XR7.out.c 4 rfl
      have rf4 := XR7.out.f 4 rfl
      have rz := XR7.out.size
      have t0 := XT7.out.c 0 rfl
      have tf0 := XT7.out.f 0 rfl
      have t1 := XT7.out.c 1 rfl
      have tf1 := XT7.out.f 1 rfl
      have t2 := XT7.out.c 2 rfl
      have tf2 := XT7.out.f 2 rfl
      have tz := XT7.out.size
      have y0 := XY7.out.c 0 rfl
      have yf0 := XY7.out.f 0 rfl
      have y1 := XY7.out.c 1 rfl
      have yf1 := XY7.out.f 1 rfl
      have y2 := XY7.out.c 2 rfl
      have yf2 := XY7.out.f 2 rfl
      have yz := XY7.out.size
      go_wp2
      have PD : w7.drew.cell? ⟨w.heap.size, 0, none⟩ = some (.int .i64 kap) ∧ w7.drew.cell? ⟨w.heap.size, 1, none⟩ = some (.bool cl) ∧ w7.drew.cell? ⟨w.heap.size, 2, none⟩ = some (.slice (some ⟨gb, 0, none⟩) b.length bc1) ∧ w7.drew.cell? ⟨w.heap.size, 3, none⟩ = some (.slice ao Rs.length (sc1 - 1)) ∧ w7.drew.cell? ⟨w.heap.size, 4, none⟩ = some ((.slice (some ⟨g', 0, none⟩) zs.length c')) ∧ w7.drew.cell? ⟨w3.heap.size, 0, none⟩ = some (.int .i64 x1) ∧ w7.drew.cell? ⟨w3.heap.size, 1, none⟩ = some (.int .i64 x2) ∧ w7.drew.cell? ⟨w3.heap.size, 2, none⟩ = some (.int .i64 x3) := ⟨a0, a1, a2, a3, a4, y0, y1, y2⟩
      go_region_held3 (fun Y => Y.cell? ⟨w.heap.size, 0, none⟩ = some (.int .i64 kap) ∧ Y.cell? ⟨w.heap.size, 1, none⟩ = some (.bool cl) ∧ Y.cell? ⟨w.heap.size, 2, none⟩ = some (.slice (some ⟨gb, 0, none⟩) b.length bc1) ∧ Y.cell? ⟨w.heap.size, 3, none⟩ = some (.slice ao Rs.length (sc1 - 1)) ∧ Y.cell? ⟨w.heap.size, 4, none⟩ = some ((.slice (some ⟨g', 0, none⟩) zs.length c')) ∧ Y.cell? ⟨w3.heap.size, 0, none⟩ = some (.int .i64 x1) ∧ Y.cell? ⟨w3.heap.size, 1, none⟩ = some (.int .i64 x2) ∧ Y.cell? ⟨w3.heap.size, 2, none⟩ = some (.int .i64 x3))
        (first | ((refine ⟨?_, ?_, ?_, ?_, ?_, ?_, ?_, ?_⟩ <;> (rw [World.cell?_setCell_other _ _ _ _ (by simp <;> omega), World.cell?_setCell_other _ _ _ _ (by simp <;> omega), World.cell?_setCell_other _ _ _ _ (by simp <;> omega), World.cell?_setCell_other _ _ _ _ (by simp <;> omega), World.cell?_setCell_other _ _ _ _ (by simp <;> omega)])); with_reducible exact P8.1; with_reducible exact P8.2.1; with_reducible exact P8.2.2.1; with_reducible exact P8.2.2.2.1; with_reducible exact P8.2.2.2.2.1; with_reducible exact P8.2.2.2.2.2.1; with_reducible exact P8.2.2.2.2.2.2.1; with_reducible exact P8.2.2.2.2.2.2.2) | ((refine ⟨?_, ?_, ?_, ?_, ?_, ?_, ?_, ?_⟩ <;> (rw [World.cell?_setCell_other _ _ _ _ (by simp <;> omega), World.cell?_setCell_other _ _ _ _ (by simp <;> omega), World.cell?_setCell_other _ _ _ _ (by simp <;> omega), World.cell?_setCell_other _ _ _ _ (by simp <;> omega), World.cell?_setCell_other _ _ _ _ (by simp <;> omega), World.cell?_setCell_other _ _ _ _ (by simp <;> omega), World.cell?_setCell_other _ _ _ _ (by simp <;> omega), World.cell?_setCell_other _ _ _ _ (by simp <;> omega)])); with_reducible exact P8.1; with_reducible exact P8.2.1; with_reducible exact P8.2.2.1; with_reducible exact P8.2.2.2.1; with_reducible exact P8.2.2.2.2.1; with_reducible exact P8.2.2.2.2.2.1; with_reducible exact P8.2.2.2.2.2.2.1; with_reducible exact P8.2.2.2.2.2.2.2) | (with_reducible exact ⟨a0, a1, a2, a3, a4, y0, y1, y2⟩) | (with_reducible exact PD) | (with_reducible exact P8))
        (first
          | (go_at_call 17; refine (ownBox_any kap cl (some ⟨gb, 0, none⟩) bc1 b ao (sc1 - 1) Rs (some ⟨g', 0, none⟩) c' zs _ hlb hRs2 hzs2 (by exact InBox.later HQ.out (Below.refl _ _).drew) ⟨by simp, HWf.out, by simp⟩).mono ?_; rintro e w8 ⟨⟨gb2, bc2, gs2, sc2, gr2, rc2, rfl, hF⟩, hy8⟩; have hb8 : Below w7.heap.size w7 w8 := (Below.refl w7.heap.size w7).drew.trans hy8; have hB8 : Below w.heap.size w w8 := hB7.trans (hb8.mono hB7.size); have hs8 : w.heap.size + 1 + 1 + 1 ≤ w8.heap.size := Nat.le_trans hs7 hb8.size; have hz8 : w7.heap.size ≤ w8.heap.size := hb8.size; have XA8 := hid (XA7.out.later hb8); have XR8 := hid (XR7.out.later hb8); have XT8 := hid (XT7.out.later hb8); have XY8 := hid (XY7.out.later hb8); have F8 := hid (F7.out.below hb8); simp only [World.size_drew] at hF; have F2x8 := hid (hF); have P8 := (⟨XA8.out.c 0 rfl, XA8.out.c 1 rfl, XA8.out.c 2 rfl, XA8.out.c 3 rfl, XA8.out.c 4 rfl, XY8.out.c 0 rfl, XY8.out.c 1 rfl, XY8.out.c 2 rfl⟩ : w8.cell? ⟨w.heap.size, 0, none⟩ = some (.int .i64 kap) ∧ w8.cell? ⟨w.heap.size, 1, none⟩ = some (.bool cl) ∧ w8.cell? ⟨w.heap.size, 2, none⟩ = some (.slice (some ⟨gb, 0, none⟩) b.length bc1) ∧ w8.cell? ⟨w.heap.size, 3, none⟩ = some (.slice ao Rs.length (sc1 - 1)) ∧ w8.cell? ⟨w.heap.size, 4, none⟩ = some ((.slice (some ⟨g', 0, none⟩) zs.length c')) ∧ w8.cell? ⟨w3.heap.size, 0, none⟩ = some (.int .i64 x1) ∧ w8.cell? ⟨w3.heap.size, 1, none⟩ = some (.int .i64 x2) ∧ w8.cell? ⟨w3.heap.size, 2, none⟩ = some (.int .i64 x3)); have ag0 := XA8.out.c 0 rfl; have ah0 := XA8.out.f 0 rfl; have ag1 := XA8.out.c 1 rfl; have ah1 := XA8.out.f 1 rfl; have ag2 := XA8.out.c 2 rfl; have ah2 := XA8.out.f 2 rfl; have ag3 := XA8.out.c 3 rfl; have ah3 := XA8.out.f 3 rfl; have ag4 := XA8.out.c 4 rfl; have ah4 := XA8.out.f 4 rfl; have rg0 := XR8.out.c 0 rfl; have rh0 := XR8.out.f 0 rfl; have rg1 := XR8.out.c 1 rfl; have rh1 := XR8.out.f 1 rfl; have rg2 := XR8.out.c 2 rfl; have rh2 := XR8.out.f 2 rfl; have rg3 := XR8.out.c 3 rfl; have rh3 := XR8.out.f 3 rfl; have rg4 := XR8.out.c 4 rfl; have rh4 := XR8.out.f 4 rfl; have tg0 := XT8.out.c 0 rfl; have th0 := XT8.out.f 0 rfl; have tg1 := XT8.out.c 1 rfl; have th1 := XT8.out.f 1 rfl; have tg2 := XT8.out.c 2 rfl; have th2 := XT8.out.f 2 rfl; have yg0 := XY8.out.c 0 rfl; have yh0 := XY8.out.f 0 rfl; have yg1 := XY8.out.c 1 rfl; have yh1 := XY8.out.f 1 rfl; have yg2 := XY8.out.c 2 rfl; have yh2 := XY8.out.f 2 rfl; clear hy8 hb8 hF))
      all_goals
        go_wp2
        refine bodyPost_ret (v := .tuple #[.agg #[.int .i64 kap, .bool cl, .slice (some ⟨gb2, 0, none⟩) b.length bc2, .slice (some ⟨gs2, 0, none⟩) Rs.length sc2, .slice (some ⟨gr2, 0, none⟩) zs.length rc2], .int .i64 0, .agg #[.int .i64 x1, .int .i64 x2, .int .i64 x3], .int .i64 0]) (by simp [results, Try.results6, go_sem, rg0, rg1, rg2, rg3, rg4, tg0, tg1, tg2]) rfl ?_
        rw [HR.out, ← HZR.out]
        exact ⟨⟨_, _, _, _, _, _, rfl, (FrBox.wide (OBox.fr ((((((((F2x8.out.setBelow (a := ⟨w.heap.size + 1, 0, none⟩) (by dsimp only; omega) _).setBelow (a := ⟨w.heap.size + 1, 1, none⟩) (by dsimp only; omega) _).setBelow (a := ⟨w.heap.size + 1, 2, none⟩) (by dsimp only; omega) _).setBelow (a := ⟨w.heap.size + 1, 3, none⟩) (by dsimp only; omega) _).setBelow (a := ⟨w.heap.size + 1, 4, none⟩) (by dsimp only; omega) _).setBelow (a := ⟨w.heap.size + 1 + 1, 0, none⟩) (by dsimp only; omega) _).setBelow (a := ⟨w.heap.size + 1 + 1, 1, none⟩) (by dsimp only; omega) _).setBelow (a := ⟨w.heap.size + 1 + 1, 2, none⟩) (by dsimp only; omega) _)) (by omega) (Nat.le_refl _)).low (Nat.le_refl _)⟩, ((((((((hB8.setCell (p := ⟨w.heap.size + 1, 0, none⟩) (by dsimp only; omega) _).setCell (p := ⟨w.heap.size + 1, 1, none⟩) (by dsimp only; omega) _).setCell (p := ⟨w.heap.size + 1, 2, none⟩) (by dsimp only; omega) _).setCell (p := ⟨w.heap.size + 1, 3, none⟩) (by dsimp only; omega) _).setCell (p := ⟨w.heap.size + 1, 4, none⟩) (by dsimp only; omega) _).setCell (p := ⟨w.heap.size + 1 + 1, 0, none⟩) (by dsimp only; omega) _).setCell (p := ⟨w.heap.size + 1 + 1, 1, none⟩) (by dsimp only; omega) _).setCell (p := ⟨w.heap.size + 1 + 1, 2, none⟩) (by dsimp only; omega) _)⟩
  have hsz : s.length = 0 := by omega
  have HR : Hid (takeR kap cl b s r = (kap, cl, b, s, r, 0, 0, 0, 0, 4)) := by rw [Hid, takeR, if_pos hg, if_neg hbp, if_neg hsp]
  have hszn : ((s.length : Int) == 0) = true := (len0 hsz).1
  clear hg hbp hsp hbz hsz
  obtain ⟨w0, hw0⟩ : ∃ w0, w0 = (((w.alloc (.cells #[.int .i64 kap, .bool cl, .slice bo b.length bc, .slice so s.length sc, .slice ro r.length rc] 26)).alloc (.cells #[.int .i64 0, .bool false, .slice none 0 0, .slice none 0 0, .slice none 0 0] 26)).alloc (.cells #[.int .i64 0, .int .i64 0, .int .i64 0] 29)) := ⟨_, rfl⟩
  have hB0 : Below w.heap.size w w0 := by rw [hw0]; exact Below.allocS (Below.allocS (Below.allocS (Below.refl _ _) _) _) _
  have XA0 : Hid (Bx w0 (w.heap.size) [.int .i64 kap, .bool cl, .slice bo b.length bc, .slice so s.length sc, .slice ro r.length rc]) := by rw [hw0]; exact Bx.alloc (Bx.alloc (Bx.new [.int .i64 kap, .bool cl, .slice bo b.length bc, .slice so s.length sc, .slice ro r.length rc] _ rfl) _) _
  have XR0 : Hid (Bx w0 (w.heap.size + 1) [.int .i64 0, .bool false, .slice none 0 0, .slice none 0 0, .slice none 0 0]) := by rw [hw0]; exact Bx.alloc (Bx.new [.int .i64 0, .bool false, .slice none 0 0, .slice none 0 0, .slice none 0 0] _ (by simp)) _
  have XT0 : Hid (Bx w0 (w.heap.size + 1 + 1) [.int .i64 0, .int .i64 0, .int .i64 0]) := by rw [hw0]; exact Bx.new [.int .i64 0, .int .i64 0, .int .i64 0] _ (by simp)
  have H0 : Hid (w0 = (((w.alloc (.cells #[.int .i64 kap, .bool cl, .slice bo b.length bc, .slice so s.length sc, .slice ro r.length rc] 26)).alloc (.cells #[.int .i64 0, .bool false, .slice none 0 0, .slice none 0 0, .slice none 0 0] 26)).alloc (.cells #[.int .i64 0, .int .i64 0, .int .i64 0] 29))) := hw0
  have hs0 : w.heap.size + 1 + 1 + 1 ≤ w0.heap.size := by rw [hw0]; simp
  clear hw0
  go_enter Try.func6, Try.ntmps6
  go_wp2_with fail
  rw [← H0.out]
  refine (specGood_is kap cl bo bc b so sc s ro rc r w0 true hlb hls hlr (hz.later hB0) HG.out).mono ?_
  rintro e w1 ⟨rfl, hb1⟩
  have hB1 := hB0.trans (hb1.mono hB0.size)
  have hs1 : w.heap.size + 1 + 1 + 1 ≤ w1.heap.size := Nat.le_trans hs0 hb1.size
  have hz1 : w0.heap.size ≤ w1.heap.size := hb1.size
  have XA1 := hid (XA0.out.later hb1)
  have XR1 := hid (XR0.out.later hb1)
  have XT1 := hid (XT0.out.later hb1)
  clear XA0 XR0 XT0
  clear hb1
  have a0 := XA1.out.c 0 rfl
  have af0 := XA1.out.f 0 rfl
  have a1 := XA1.out.c 1 rfl
  have af1 := XA1.out.f 1 rfl
  have a2 := XA1.out.c 2 rfl
  have af2 := XA1.out.f 2 rfl
  have a3 := XA1.out.c 3 rfl
  have af3 := XA1.out.f 3 rfl
  have a4 := XA1.out.c 4 rfl
  have af4 := XA1.out.f 4 rfl
  have az := XA1.out.size
  have r0 := XR1.out.c 0 rfl
  have rf0 := XR1.out.f 0 rfl
  have r1 := XR1.out.c 1 rfl
  have rf1 := XR1.out.f 1 rfl
  have r2 := XR1.out.c 2 rfl
  have rf2 := XR1.out.f 2 rfl
  have r3 := XR1.out.c 3 rfl
  have rf3 := XR1.out.f 3 rfl
  have r4 := XR1.out.c 4 rfl
  have rf4 := XR1.out.f 4 rfl
  have rz := XR1.out.size
  have t0 := XT1.out.c 0 rfl
  have tf0 := XT1.out.f 0 rfl
  have t1 := XT1.out.c 1 rfl
  have tf1 := XT1.out.f 1 rfl
  have t2 := XT1.out.c 2 rfl
  have tf2 := XT1.out.f 2 rfl
  have tz := XT1.out.size
  go_wp2_with fail
  clear a0 af0 a1 af1 a2 af2 a3 af3 a4 af4 az r0 rf0 r1 rf1 r2 rf2 r3 rf3 r4 rf4 rz t0 tf0 t1 tf1 t2 tf2 tz
  refine (ownBox_any kap cl bo bc b so sc s ro rc r w1 hlb hls hlr (hz.later hB1) hwf).mono ?_
  rintro e w2 ⟨⟨gb, bc1, gs, sc1, gr, rc1, rfl, hF⟩, hb2⟩
  have hB2 := hB1.trans (hb2.mono hB1.size)
  have hs2 : w.heap.size + 1 + 1 + 1 ≤ w2.heap.size := Nat.le_trans hs1 hb2.size
  have hz2 : w1.heap.size ≤ w2.heap.size := hb2.size
  have XA2 := hid (XA1.out.later hb2)
  have XR2 := hid (XR1.out.later hb2)
  have XT2 := hid (XT1.out.later hb2)
  clear XA1 XR1 XT1
  have F2 := hid (hF)
  clear hb2 hF
  have a0 := XA2.out.c 0 rfl
  have af0 := XA2.out.f 0 rfl
  have a1 := XA2.out.c 1 rfl
  have af1 := XA2.out.f 1 rfl
  have a2 := XA2.out.c 2 rfl
  have af2 := XA2.out.f 2 rfl
  have a3 := XA2.out.c 3 rfl
  have af3 := XA2.out.f 3 rfl
  have a4 := XA2.out.c 4 rfl
  have af4 := XA2.out.f 4 rfl
  have az := XA2.out.size
  have r0 := XR2.out.c 0 rfl
  have rf0 := XR2.out.f 0 rfl
  have r1 := XR2.out.c 1 rfl
  have rf1 := XR2.out.f 1 rfl
  have r2 := XR2.out.c 2 rfl
  have rf2 := XR2.out.f 2 rfl
  have r3 := XR2.out.c 3 rfl
  have rf3 := XR2.out.f 3 rfl
  have r4 := XR2.out.c 4 rfl
  have rf4 := XR2.out.f 4 rfl
  have rz := XR2.out.size
  have t0 := XT2.out.c 0 rfl
  have tf0 := XT2.out.f 0 rfl
  have t1 := XT2.out.c 1 rfl
  have tf1 := XT2.out.f 1 rfl
  have t2 := XT2.out.c 2 rfl
  have tf2 := XT2.out.f 2 rfl
  have tz := XT2.out.size
  go_upto_region 4 with fail
  clear a0 af0 a1 af1 a2 af2 a3 af3 a4 af4 az r0 rf0 r1 rf1 r2 rf2 r3 rf3 r4 rf4 rz t0 tf0 t1 tf1 t2 tf2 tz
  obtain ⟨w3, hV⟩ : ∃ V, V = (((((w2.setCell ⟨w.heap.size, 0, none⟩ (.int .i64 kap)).setCell ⟨w.heap.size, 1, none⟩ (.bool cl)).setCell ⟨w.heap.size, 2, none⟩ (.slice (some ⟨gb, 0, none⟩) b.length bc1)).setCell ⟨w.heap.size, 3, none⟩ (.slice (some ⟨gs, 0, none⟩) s.length sc1)).setCell ⟨w.heap.size, 4, none⟩ (.slice (some ⟨gr, 0, none⟩) r.length rc1)) := ⟨_, rfl⟩
  have hz3 : w2.heap.size ≤ w3.heap.size := by rw [hV]; simp [World.setCell]
  have hs3 : w.heap.size + 1 + 1 + 1 ≤ w3.heap.size := Nat.le_trans hs2 hz3
  have hB3 : Below w.heap.size w w3 := by rw [hV]; exact (((((hB2.setCell (p := ⟨w.heap.size, 0, none⟩) (by dsimp only; omega) _).setCell (p := ⟨w.heap.size, 1, none⟩) (by dsimp only; omega) _).setCell (p := ⟨w.heap.size, 2, none⟩) (by dsimp only; omega) _).setCell (p := ⟨w.heap.size, 3, none⟩) (by dsimp only; omega) _).setCell (p := ⟨w.heap.size, 4, none⟩) (by dsimp only; omega) _)
  have XA3 := hid ((((((XA2.out.set 0 (.int .i64 kap)).set 1 (.bool cl)).set 2 (.slice (some ⟨gb, 0, none⟩) b.length bc1)).set 3 (.slice (some ⟨gs, 0, none⟩) s.length sc1)).set 4 (.slice (some ⟨gr, 0, none⟩) r.length rc1)))
  rw [← hV] at XA3
  have XR3 := hid ((((((XR2.out.other (a := ⟨w.heap.size, 0, none⟩) (by dsimp only; omega) (.int .i64 kap)).other (a := ⟨w.heap.size, 1, none⟩) (by dsimp only; omega) (.bool cl)).other (a := ⟨w.heap.size, 2, none⟩) (by dsimp only; omega) (.slice (some ⟨gb, 0, none⟩) b.length bc1)).other (a := ⟨w.heap.size, 3, none⟩) (by dsimp only; omega) (.slice (some ⟨gs, 0, none⟩) s.length sc1)).other (a := ⟨w.heap.size, 4, none⟩) (by dsimp only; omega) (.slice (some ⟨gr, 0, none⟩) r.length rc1)))
  rw [← hV] at XR3
  have XT3 := hid ((((((XT2.out.other (a := ⟨w.heap.size, 0, none⟩) (by dsimp only; omega) (.int .i64 kap)).other (a := ⟨w.heap.size, 1, none⟩) (by dsimp only; omega) (.bool cl)).other (a := ⟨w.heap.size, 2, none⟩) (by dsimp only; omega) (.slice (some ⟨gb, 0, none⟩) b.length bc1)).other (a := ⟨w.heap.size, 3, none⟩) (by dsimp only; omega) (.slice (some ⟨gs, 0, none⟩) s.length sc1)).other (a := ⟨w.heap.size, 4, none⟩) (by dsimp only; omega) (.slice (some ⟨gr, 0, none⟩) r.length rc1)))
  rw [← hV] at XT3
  have F3 := hid ((((((F2.out.setBelow (a := ⟨w.heap.size, 0, none⟩) (by dsimp only; omega) (.int .i64 kap)).setBelow (a := ⟨w.heap.size, 1, none⟩) (by dsimp only; omega) (.bool cl)).setBelow (a := ⟨w.heap.size, 2, none⟩) (by dsimp only; omega) (.slice (some ⟨gb, 0, none⟩) b.length bc1)).setBelow (a := ⟨w.heap.size, 3, none⟩) (by dsimp only; omega) (.slice (some ⟨gs, 0, none⟩) s.length sc1)).setBelow (a := ⟨w.heap.size, 4, none⟩) (by dsimp only; omega) (.slice (some ⟨gr, 0, none⟩) r.length rc1)))
  rw [← hV] at F3
  have H3 : Hid (w3 = (((((w2.setCell ⟨w.heap.size, 0, none⟩ (.int .i64 kap)).setCell ⟨w.heap.size, 1, none⟩ (.bool cl)).setCell ⟨w.heap.size, 2, none⟩ (.slice (some ⟨gb, 0, none⟩) b.length bc1)).setCell ⟨w.heap.size, 3, none⟩ (.slice (some ⟨gs, 0, none⟩) s.length sc1)).setCell ⟨w.heap.size, 4, none⟩ (.slice (some ⟨gr, 0, none⟩) r.length rc1))) := hV
  clear hV XA2 XR2 XT2 F2
  rw [← H3.out]
  clear H3
  have a0 := XA3.out.c 0 rfl
  have af0 := XA3.out.f 0 rfl
  have a1 := XA3.out.c 1 rfl
  have af1 := XA3.out.f 1 rfl
  have a2 := XA3.out.c 2 rfl
  have af2 := XA3.out.f 2 rfl
  have a3 := XA3.out.c 3 rfl
  have af3 := XA3.out.f 3 rfl
  have a4 := XA3.out.c 4 rfl
  have af4 := XA3.out.f 4 rfl
  have az := XA3.out.size
  have r0 := XR3.out.c 0 rfl
  have rf0 := XR3.out.f 0 rfl
  have r1 := XR3.out.c 1 rfl
  have rf1 := XR3.out.f 1 rfl
  have r2 := XR3.out.c 2 rfl
  have rf2 := XR3.out.f 2 rfl
  have r3 := XR3.out.c 3 rfl
  have rf3 := XR3.out.f 3 rfl
  have r4 := XR3.out.c 4 rfl
  have rf4 := XR3.out.f 4 rfl
  have rz := XR3.out.size
  have t0 := XT3.out.c 0 rfl
  have tf0 := XT3.out.f 0 rfl
  have t1 := XT3.out.c 1 rfl
  have tf1 := XT3.out.f 1 rfl
  have t2 := XT3.out.c 2 rfl
  have tf2 := XT3.out.f 2 rfl
  have tz := XT3.out.size
  go_wp2
  refine bodyPost_ret (v := .tuple #[.agg #[.int .i64 kap, .bool cl, .slice (some ⟨gb, 0, none⟩) b.length bc1, .slice (some ⟨gs, 0, none⟩) s.length sc1, .slice (some ⟨gr, 0, none⟩) r.length rc1], .int .i64 0, .agg #[.int .i64 0, .int .i64 0, .int .i64 0], .int .i64 4]) (by simp [results, Try.results6, go_sem, r0, r1, r2, r3, r4, t0, t1, t2]) rfl ?_
  rw [HR.out]
  exact ⟨⟨_, _, _, _, _, _, rfl, (FrBox.wide (OBox.fr ((((((((F3.out.setBelow (a := ⟨w.heap.size + 1, 0, none⟩) (by dsimp only; omega) _).setBelow (a := ⟨w.heap.size + 1, 1, none⟩) (by dsimp only; omega) _).setBelow (a := ⟨w.heap.size + 1, 2, none⟩) (by dsimp only; omega) _).setBelow (a := ⟨w.heap.size + 1, 3, none⟩) (by dsimp only; omega) _).setBelow (a := ⟨w.heap.size + 1, 4, none⟩) (by dsimp only; omega) _).setBelow (a := ⟨w.heap.size + 1 + 1, 0, none⟩) (by dsimp only; omega) _).setBelow (a := ⟨w.heap.size + 1 + 1, 1, none⟩) (by dsimp only; omega) _).setBelow (a := ⟨w.heap.size + 1 + 1, 2, none⟩) (by dsimp only; omega) _)) (by omega) (Nat.le_refl _)).low (Nat.le_refl _)⟩, ((((((((hB3.setCell (p := ⟨w.heap.size + 1, 0, none⟩) (by dsimp only; omega) _).setCell (p := ⟨w.heap.size + 1, 1, none⟩) (by dsimp only; omega) _).setCell (p := ⟨w.heap.size + 1, 2, none⟩) (by dsimp only; omega) _).setCell (p := ⟨w.heap.size + 1, 3, none⟩) (by dsimp only; omega) _).setCell (p := ⟨w.heap.size + 1, 4, none⟩) (by dsimp only; omega) _).setCell (p := ⟨w.heap.size + 1 + 1, 0, none⟩) (by dsimp only; omega) _).setCell (p := ⟨w.heap.size + 1 + 1, 1, none⟩) (by dsimp only; omega) _).setCell (p := ⟨w.heap.size + 1 + 1, 2, none⟩) (by dsimp only; omega) _)⟩
end Go.Proofs.Ytnnlbnbamhkcaaa
