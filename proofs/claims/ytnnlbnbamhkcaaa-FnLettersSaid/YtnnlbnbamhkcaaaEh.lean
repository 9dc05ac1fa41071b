
/- GiveBackLetters: the program and the specification. No conditions but those written. -/
import Derived.Test.YtnnlbnbamhkcaaaEa
import Derived.Test.YtnnlbnbamhkcaaaGw
import Derived.Deep.Cut
import Derived.Deep.RegionLaw
namespace Go.Proofs.Ytnnlbnbamhkcaaa
open Go.RowKit

/-- GiveBackLetters' answer. -/
def giveR (kap : Int) (cl : Bool) (b : List Int) (s r : List (Int × Int × Int)) : Int × Bool × List Int × List (Int × Int × Int) × List (Int × Int × Int) × Int := if goodX kap b s r = true then (kap, cl, b, r ++ s, [], 0) else (0, false, [], [], [], 1)
theorem giveR_bad {kap : Int} {cl : Bool} {b : List Int} {s r : List (Int × Int × Int)} (h : goodX kap b s r = false) : giveR kap cl b s r = (0, false, [], [], [], 1) := by rw [giveR, if_neg]; rw [h]; simp
theorem giveR_len {kap : Int} {cl : Bool} {b : List Int} {s r : List (Int × Int × Int)} (h1 : b.length ≤ 1048576) (_ : s.length ≤ 1048576) (_ : r.length ≤ 1048576) : (giveR kap cl b s r).2.2.1.length ≤ 1048576 ∧ (giveR kap cl b s r).2.2.2.1.length ≤ 1048576 ∧ (giveR kap cl b s r).2.2.2.2.1.length ≤ 1048576 := by
  unfold giveR
  split
  · rename_i h
    have := goodX_good h
    refine ⟨h1, ?_, by simp⟩
    show (r ++ s).length ≤ 1048576
    simp; omega
  · simp
theorem concatL_as (p : Nat) (o1 : Option Addr) (c1 : Nat) (l1 : List (Int × Int × Int)) (o2 : Option Addr) (c2 : Nat) (l2 : List (Int × Int × Int)) (w : World) (h1 : l1.length ≤ 1048576) (h2 : l2.length ≤ 1048576) (hz1 : kL.In w.heap.size w o1 l1) (hz2 : kL.In w.heap.size w o2 l2) (hw1 : o1 = none → c1 = 0) (hw2 : o2 = none → c2 = 0) (hp : Bx w p [.slice o1 l1.length c1, .slice o2 l2.length c2]) (q : List (Int × Int × Int)) (hq : l1 ++ l2 = q) :
    Calls Try.prog 19 #[.slice (some ⟨p, 0, none⟩) 2 2] w fun e w' => (∃ v, e = .returned v ∧ kL.Own w.heap.size w' v q) ∧ Below w.heap.size w w' := by
  subst hq; exact concatL_any p o1 c1 l1 o2 c2 l2 w h1 h2 hz1 hz2 hw1 hw2 hp
set_option maxRecDepth 10000 in
set_option maxHeartbeats 8000000 in
theorem implGive_any (kap : Int) (cl : Bool) (bo : Option Addr) (bc : Nat) (b : List Int) (so : Option Addr) (sc : Nat) (s : List (Int × Int × Int)) (ro : Option Addr) (rc : Nat) (r : List (Int × Int × Int)) (w : World) (hlb : b.length ≤ 1048576) (hls : s.length ≤ 1048576) (hlr : r.length ≤ 1048576) (hz : InBox w.heap.size w bo b so s ro r) (hwf : WfBox bo bc so sc ro rc) :
    Calls Try.prog 9 #[.agg #[.int .i64 kap, .bool cl, .slice bo b.length bc, .slice so s.length sc, .slice ro r.length rc]] w fun e w' => AnsN w (giveR kap cl b s r) e w' := by
  cases hg : goodX kap b s r
  · have HG : Hid (goodX kap b s r = false) := hg
    have HR : Hid (giveR kap cl b s r = (0, false, [], [], [], 1)) := giveR_bad hg
    clear hg
    obtain ⟨w0, hw0⟩ : ∃ w0, w0 = ((w.alloc (.cells #[.int .i64 kap, .bool cl, .slice bo b.length bc, .slice so s.length sc, .slice ro r.length rc] 26)).alloc (.cells #[.int .i64 0, .bool false, .slice none 0 0, .slice none 0 0, .slice none 0 0] 26)) := ⟨_, rfl⟩
    have hB0 : Below w.heap.size w w0 := by rw [hw0]; exact Below.allocS (Below.allocS (Below.refl _ _) _) _
    have XA0 : Hid (Bx w0 (w.heap.size) [.int .i64 kap, .bool cl, .slice bo b.length bc, .slice so s.length sc, .slice ro r.length rc]) := by rw [hw0]; exact Bx.alloc (Bx.new [.int .i64 kap, .bool cl, .slice bo b.length bc, .slice so s.length sc, .slice ro r.length rc] _ rfl) _
    have XR0 : Hid (Bx w0 (w.heap.size + 1) [.int .i64 0, .bool false, .slice none 0 0, .slice none 0 0, .slice none 0 0]) := by rw [hw0]; exact Bx.new [.int .i64 0, .bool false, .slice none 0 0, .slice none 0 0, .slice none 0 0] _ (by simp)
    have H0 : Hid (w0 = ((w.alloc (.cells #[.int .i64 kap, .bool cl, .slice bo b.length bc, .slice so s.length sc, .slice ro r.length rc] 26)).alloc (.cells #[.int .i64 0, .bool false, .slice none 0 0, .slice none 0 0, .slice none 0 0] 26))) := hw0
    have hs0 : w.heap.size + 1 + 1 ≤ w0.heap.size := by rw [hw0]; simp
    clear hw0
    go_enter Try.func9, Try.ntmps9
    go_wp2_with fail
    rw [← H0.out]
    refine (implGood_is kap cl bo bc b so sc s ro rc r w0 false hlb hls hlr (hz.later hB0) HG.out).mono ?_
    rintro e w1 ⟨rfl, hb1⟩
    have hB1 := hB0.trans (hb1.mono hB0.size)
    have hs1 : w.heap.size + 1 + 1 ≤ w1.heap.size := Nat.le_trans hs0 hb1.size
    have hz1 : w0.heap.size ≤ w1.heap.size := hb1.size
    have XA1 := hid (XA0.out.later hb1)
    have XR1 := hid (XR0.out.later hb1)
    clear XA0 XR0
    clear hb1
    have a0 := XA1.out.c 0 rfl
    have af0 := XA1.out.f 0 rfl
    have a1 := XA1.out.c 1 rfl
    have af1 := XA1.out.f 1 rfl
    have a2 := XA1.out.c 2 rfl
    have af2 := XA1.out.f 2 rfl
    have a3 := XA1.out.c 3 rfl
    have af3 := XA1.out.f 3 rfl
    have a4 := XA1.out.c 4 rfl
    have af4 := XA1.out.f 4 rfl
    have az := XA1.out.size
    have r0 := XR1.out.c 0 rfl
    have rf0 := XR1.out.f 0 rfl
    have r1 := XR1.out.c 1 rfl
    have rf1 := XR1.out.f 1 rfl
    have r2 := XR1.out.c 2 rfl
    have rf2 := XR1.out.f 2 rfl
    have r3 := XR1.out.c 3 rfl
    have rf3 := XR1.out.f 3 rfl
    have r4 := XR1.out.c 4 rfl
    have rf4 := XR1.out.f 4 rfl
    have rz := XR1.out.size
    go_wp2
    refine bodyPost_ret (v := .tuple #[.agg #[.int .i64 0, .bool false, .slice none 0 0, .slice none 0 0, .slice none 0 0], .int .i64 1]) (by simp [results, Try.results9, go_sem, r0, r1, r2, r3, r4]) rfl ?_
    rw [HR.out]
    exact ⟨⟨none, 0, none, 0, none, 0, rfl, frBox_nil _ _ _⟩, (((((hB1.setCell (p := ⟨w.heap.size + 1, 0, none⟩) (by dsimp only; omega) _).setCell (p := ⟨w.heap.size + 1, 1, none⟩) (by dsimp only; omega) _).setCell (p := ⟨w.heap.size + 1, 2, none⟩) (by dsimp only; omega) _).setCell (p := ⟨w.heap.size + 1, 3, none⟩) (by dsimp only; omega) _).setCell (p := ⟨w.heap.size + 1, 4, none⟩) (by dsimp only; omega) _)⟩
  have HG : Hid (goodX kap b s r = true) := hg
  obtain ⟨q, eq⟩ : ∃ q, r ++ s = q := ⟨_, rfl⟩
  have HR : Hid (giveR kap cl b s r = (kap, cl, b, q, [], 0)) := by rw [Hid, giveR, if_pos hg, eq]
  have HQ := hid eq
  clear hg eq
  obtain ⟨w0, hw0⟩ : ∃ w0, w0 = ((w.alloc (.cells #[.int .i64 kap, .bool cl, .slice bo b.length bc, .slice so s.length sc, .slice ro r.length rc] 26)).alloc (.cells #[.int .i64 0, .bool false, .slice none 0 0, .slice none 0 0, .slice none 0 0] 26)) := ⟨_, rfl⟩
  have hB0 : Below w.heap.size w w0 := by rw [hw0]; exact Below.allocS (Below.allocS (Below.refl _ _) _) _
  have XA0 : Hid (Bx w0 (w.heap.size) [.int .i64 kap, .bool cl, .slice bo b.length bc, .slice so s.length sc, .slice ro r.length rc]) := by rw [hw0]; exact Bx.alloc (Bx.new [.int .i64 kap, .bool cl, .slice bo b.length bc, .slice so s.length sc, .slice ro r.length rc] _ rfl) _
  have XR0 : Hid (Bx w0 (w.heap.size + 1) [.int .i64 0, .bool false, .slice none 0 0, .slice none 0 0, .slice none 0 0]) := by rw [hw0]; exact Bx.new [.int .i64 0, .bool false, .slice none 0 0, .slice none 0 0, .slice none 0 0] _ (by simp)
  have H0 : Hid (w0 = ((w.alloc (.cells #[.int .i64 kap, .bool cl, .slice bo b.length bc, .slice so s.length sc, .slice ro r.length rc] 26)).alloc (.cells #[.int .i64 0, .bool false, .slice none 0 0, .slice none 0 0, .slice none 0 0] 26))) := hw0
  have hs0 : w.heap.size + 1 + 1 ≤ w0.heap.size := by rw [hw0]; simp
  clear hw0
  go_enter Try.func9, Try.ntmps9
  go_wp2_with fail
  rw [← H0.out]
  refine (implGood_is kap cl bo bc b so sc s ro rc r w0 true hlb hls hlr (hz.later hB0) HG.out).mono ?_
  rintro e w1 ⟨rfl, hb1⟩
  have hB1 := hB0.trans (hb1.mono hB0.size)
  have hs1 : w.heap.size + 1 + 1 ≤ w1.heap.size := Nat.le_trans hs0 hb1.size
  have hz1 : w0.heap.size ≤ w1.heap.size := hb1.size
  have XA1 := hid (XA0.out.later hb1)
  have XR1 := hid (XR0.out.later hb1)
  clear XA0 XR0
  clear hb1
  have a0 := XA1.out.c 0 rfl
  have af0 := XA1.out.f 0 rfl
  have a1 := XA1.out.c 1 rfl
  have af1 := XA1.out.f 1 rfl
  have a2 := XA1.out.c 2 rfl
  have af2 := XA1.out.f 2 rfl
  have a3 := XA1.out.c 3 rfl
  have af3 := XA1.out.f 3 rfl
  have a4 := XA1.out.c 4 rfl
  have af4 := XA1.out.f 4 rfl
  have az := XA1.out.size
  have r0 := XR1.out.c 0 rfl
  have rf0 := XR1.out.f 0 rfl
  have r1 := XR1.out.c 1 rfl
  have rf1 := XR1.out.f 1 rfl
  have r2 := XR1.out.c 2 rfl
  have rf2 := XR1.out.f 2 rfl
  have r3 := XR1.out.c 3 rfl
  have rf3 := XR1.out.f 3 rfl
  have r4 := XR1.out.c 4 rfl
  have rf4 := XR1.out.f 4 rfl
  have rz := XR1.out.size
  go_wp2_with fail
  clear a0 af0 a1 af1 a2 af2 a3 af3 a4 af4 az r0 rf0 r1 rf1 r2 rf2 r3 rf3 r4 rf4 rz
  refine (copyBox_any kap cl bo bc b so sc s ro rc r w1 hlb hls hlr (hz.later hB1)).mono ?_
  rintro e w2 ⟨⟨bo1, bc1, so1, sc1, ro1, rc1, rfl, hF⟩, hb2⟩
  have hB2 := hB1.trans (hb2.mono hB1.size)
  have hs2 : w.heap.size + 1 + 1 ≤ w2.heap.size := Nat.le_trans hs1 hb2.size
  have hz2 : w1.heap.size ≤ w2.heap.size := hb2.size
  have XA2 := hid (XA1.out.later hb2)
  have XR2 := hid (XR1.out.later hb2)
  clear XA1 XR1
  have F2 := hid (hF)
  clear hb2 hF
  have a0 := XA2.out.c 0 rfl
  have af0 := XA2.out.f 0 rfl
  have a1 := XA2.out.c 1 rfl
  have af1 := XA2.out.f 1 rfl
  have a2 := XA2.out.c 2 rfl
  have af2 := XA2.out.f 2 rfl
  have a3 := XA2.out.c 3 rfl
  have af3 := XA2.out.f 3 rfl
  have a4 := XA2.out.c 4 rfl
  have af4 := XA2.out.f 4 rfl
  have az := XA2.out.size
  have r0 := XR2.out.c 0 rfl
  have rf0 := XR2.out.f 0 rfl
  have r1 := XR2.out.c 1 rfl
  have rf1 := XR2.out.f 1 rfl
  have r2 := XR2.out.c 2 rfl
  have rf2 := XR2.out.f 2 rfl
  have r3 := XR2.out.c 3 rfl
  have rf3 := XR2.out.f 3 rfl
  have r4 := XR2.out.c 4 rfl
  have rf4 := XR2.out.f 4 rfl
  have rz := XR2.out.size
  obtain ⟨w3, hV⟩ : ∃ V, V = w2.alloc (.cells #[.int .i64 kap, .bool cl, .slice bo1 b.length bc1, .slice so1 s.length sc1, .slice ro1 r.length rc1] 26) := ⟨_, rfl⟩
  have hz3 : w2.heap.size ≤ w3.heap.size := by rw [hV]; simp
  have hs3 : w.heap.size + 1 + 1 ≤ w3.heap.size := Nat.le_trans hs2 hz3
  have hB3 : Below w.heap.size w w3 := by rw [hV]; exact Below.allocS hB2 _
  have XA3 := hid (XA2.out.alloc (.cells #[.int .i64 kap, .bool cl, .slice bo1 b.length bc1, .slice so1 s.length sc1, .slice ro1 r.length rc1] 26))
  rw [← hV] at XA3
  have XR3 := hid (XR2.out.alloc (.cells #[.int .i64 kap, .bool cl, .slice bo1 b.length bc1, .slice so1 s.length sc1, .slice ro1 r.length rc1] 26))
  rw [← hV] at XR3
  have F3 := hid (F2.out.later (below1 w2 (.cells #[.int .i64 kap, .bool cl, .slice bo1 b.length bc1, .slice so1 s.length sc1, .slice ro1 r.length rc1] 26)))
  rw [← hV] at F3
  have H3 : Hid (w3 = w2.alloc (.cells #[.int .i64 kap, .bool cl, .slice bo1 b.length bc1, .slice so1 s.length sc1, .slice ro1 r.length rc1] 26)) := hV
  clear hV XA2 XR2 F2
  have XN3 : Hid (Bx w3 w2.heap.size [.int .i64 kap, .bool cl, .slice bo1 b.length bc1, .slice so1 s.length sc1, .slice ro1 r.length rc1]) := by rw [H3.out]; exact Bx.new [.int .i64 kap, .bool cl, .slice bo1 b.length bc1, .slice so1 s.length sc1, .slice ro1 r.length rc1] _ rfl
  have hy3 : w2.heap.size < w3.heap.size := XN3.out.size
  go_upto_region 4 with fail
  clear a0 af0 a1 af1 a2 af2 a3 af3 a4 af4 az r0 rf0 r1 rf1 r2 rf2 r3 rf3 r4 rf4 rz
  rw [← H3.out]
  have a0 := XA3.out.c 0 rfl
  have af0 := XA3.out.f 0 rfl
  have a1 := XA3.out.c 1 rfl
  have af1 := XA3.out.f 1 rfl
  have a2 := XA3.out.c 2 rfl
  have af2 := XA3.out.f 2 rfl
  have a3 := XA3.out.c 3 rfl
  have af3 := XA3.out.f 3 rfl
  have a4 := XA3.out.c 4 rfl
  have af4 := XA3.out.f 4 rfl
  have az := XA3.out.size
  have r0 := XR3.out.c 0 rfl
  have rf0 := XR3.out.f 0 rfl
  have r1 := XR3.out.c 1 rfl
  have rf1 := XR3.out.f 1 rfl
  have r2 := XR3.out.c 2 rfl
  have rf2 := XR3.out.f 2 rfl
  have r3 := XR3.out.c 3 rfl
  have rf3 := XR3.out.f 3 rfl
  have r4 := XR3.out.c 4 rfl
  have rf4 := XR3.out.f 4 rfl
  have rz := XR3.out.size
  have n0 := XN3.out.c 0 rfl
  have nf0 := XN3.out.f 0 rfl
  have n1 := XN3.out.c 1 rfl
  have nf1 := XN3.out.f 1 rfl
  have n2 := XN3.out.c 2 rfl
  have nf2 := XN3.out.f 2 rfl
  have n3 := XN3.out.c 3 rfl
  have nf3 := XN3.out.f 3 rfl
  have n4 := XN3.out.c 4 rfl
  have nf4 := XN3.out.f 4 rfl
  have nz := XN3.out.size
  obtain ⟨w4, hV⟩ : ∃ V, V = w3.alloc (.cells #[.slice ro r.length rc, .slice so s.length sc] 24) := ⟨_, rfl⟩
  have hz4 : w3.heap.size ≤ w4.heap.size := by rw [hV]; simp
  have hs4 : w.heap.size + 1 + 1 ≤ w4.heap.size := Nat.le_trans hs3 hz4
  have hB4 : Below w.heap.size w w4 := by rw [hV]; exact Below.allocS hB3 _
  have XA4 := hid (XA3.out.alloc (.cells #[.slice ro r.length rc, .slice so s.length sc] 24))
  rw [← hV] at XA4
  have XR4 := hid (XR3.out.alloc (.cells #[.slice ro r.length rc, .slice so s.length sc] 24))
  rw [← hV] at XR4
  have XN4 := hid (XN3.out.alloc (.cells #[.slice ro r.length rc, .slice so s.length sc] 24))
  rw [← hV] at XN4
  have F4 := hid (F3.out.later (below1 w3 (.cells #[.slice ro r.length rc, .slice so s.length sc] 24)))
  rw [← hV] at F4
  have H4 : Hid (w4 = w3.alloc (.cells #[.slice ro r.length rc, .slice so s.length sc] 24)) := hV
  clear hV XA3 XR3 XN3 F3
  have XD4 : Hid (Bx w4 w3.heap.size [.slice ro r.length rc, .slice so s.length sc]) := by rw [H4.out]; exact Bx.new [.slice ro r.length rc, .slice so s.length sc] _ rfl
  have hy4 : w3.heap.size < w4.heap.size := XD4.out.size
  go_wp2_with fail
  clear a0 af0 a1 af1 a2 af2 a3 af3 a4 af4 az r0 rf0 r1 rf1 r2 rf2 r3 rf3 r4 rf4 rz n0 nf0 n1 nf1 n2 nf2 n3 nf3 n4 nf4 nz
  rw [← H4.out]
  refine (concatL_as w3.heap.size ro rc r so sc s w4 hlr hls (hz.2.2.later hB4) (hz.2.1.later hB4) hwf.2.2 hwf.2.1 XD4.out q HQ.out).mono ?_
  rintro e w5 ⟨⟨v, rfl, hO⟩, hb5⟩
  have hB5 := hB4.trans (hb5.mono hB4.size)
  have hs5 : w.heap.size + 1 + 1 ≤ w5.heap.size := Nat.le_trans hs4 hb5.size
  have hz5 : w4.heap.size ≤ w5.heap.size := hb5.size
  have XA5 := hid (XA4.out.later hb5)
  have XR5 := hid (XR4.out.later hb5)
  have XN5 := hid (XN4.out.later hb5)
  have XD5 := hid (XD4.out.later hb5)
  have F5 := hid (F4.out.later hb5)
  clear XA4 XR4 XN4 XD4 F4
  clear hb5
  obtain ⟨go, qc, rfl, _, hK⟩ := hO.fresh
  have K5 := hid hK
  clear hO hK
  have a0 := XA5.out.c 0 rfl
  have af0 := XA5.out.f 0 rfl
  have a1 := XA5.out.c 1 rfl
  have af1 := XA5.out.f 1 rfl
  have a2 := XA5.out.c 2 rfl
  have af2 := XA5.out.f 2 rfl
  have a3 := XA5.out.c 3 rfl
  have af3 := XA5.out.f 3 rfl
  have a4 := XA5.out.c 4 rfl
  have af4 := XA5.out.f 4 rfl
  have az := XA5.out.size
  have r0 := XR5.out.c 0 rfl
  have rf0 := XR5.out.f 0 rfl
  have r1 := XR5.out.c 1 rfl
  have rf1 := XR5.out.f 1 rfl
  have r2 := XR5.out.c 2 rfl
  have rf2 := XR5.out.f 2 rfl
  have r3 := XR5.out.c 3 rfl
  have rf3 := XR5.out.f 3 rfl
  have r4 := XR5.out.c 4 rfl
  have rf4 := XR5.out.f 4 rfl
  have rz := XR5.out.size
  have n0 := XN5.out.c 0 rfl
  have nf0 := XN5.out.f 0 rfl
  have n1 := XN5.out.c 1 rfl
  have nf1 := XN5.out.f 1 rfl
  have n2 := XN5.out.c 2 rfl
  have nf2 := XN5.out.f 2 rfl
  have n3 := XN5.out.c 3 rfl
  have nf3 := XN5.out.f 3 rfl
  have n4 := XN5.out.c 4 rfl
  have nf4 := XN5.out.f 4 rfl
  have nz := XN5.out.size
  have d0 := XD5.out.c 0 rfl
  have df0 := XD5.out.f 0 rfl
  have d1 := XD5.out.c 1 rfl
  have df1 := XD5.out.f 1 rfl
  have dz := XD5.out.size
  go_upto_region 6 with fail
  clear a0 af0 a1 af1 a2 af2 a3 af3 a4 af4 az r0 rf0 r1 rf1 r2 rf2 r3 rf3 r4 rf4 rz n0 nf0 n1 nf1 n2 nf2 n3 nf3 n4 nf4 nz d0 df0 d1 df1 dz
  obtain ⟨w6, hV⟩ : ∃ V, V = ((w5.setCell ⟨w2.heap.size, 3, none⟩ (.slice go q.length qc)).setCell ⟨w2.heap.size, 4, none⟩ (.slice none 0 0)) := ⟨_, rfl⟩
  have hz6 : w5.heap.size ≤ w6.heap.size := by rw [hV]; simp [World.setCell]
  have hs6 : w.heap.size + 1 + 1 ≤ w6.heap.size := Nat.le_trans hs5 hz6
  have hB6 : Below w.heap.size w w6 := by rw [hV]; exact ((hB5.setCell (p := ⟨w2.heap.size, 3, none⟩) (by dsimp only; omega) _).setCell (p := ⟨w2.heap.size, 4, none⟩) (by dsimp only; omega) _)
  have XA6 := hid (((XA5.out.other (a := ⟨w2.heap.size, 3, none⟩) (by dsimp only; omega) (.slice go q.length qc)).other (a := ⟨w2.heap.size, 4, none⟩) (by dsimp only; omega) (.slice none 0 0)))
  rw [← hV] at XA6
  have XR6 := hid (((XR5.out.other (a := ⟨w2.heap.size, 3, none⟩) (by dsimp only; omega) (.slice go q.length qc)).other (a := ⟨w2.heap.size, 4, none⟩) (by dsimp only; omega) (.slice none 0 0)))
  rw [← hV] at XR6
  have XN6 := hid (((XN5.out.set 3 (.slice go q.length qc)).set 4 (.slice none 0 0)))
  rw [← hV] at XN6
  have XD6 := hid (((XD5.out.other (a := ⟨w2.heap.size, 3, none⟩) (by dsimp only; omega) (.slice go q.length qc)).other (a := ⟨w2.heap.size, 4, none⟩) (by dsimp only; omega) (.slice none 0 0)))
  rw [← hV] at XD6
  have F6 := hid (((F5.out.setOff (a := ⟨w2.heap.size, 3, none⟩) (by dsimp only; omega) (.slice go q.length qc)).setOff (a := ⟨w2.heap.size, 4, none⟩) (by dsimp only; omega) (.slice none 0 0)))
  rw [← hV] at F6
  have K6 := hid (((K5.out.setOff (a := ⟨w2.heap.size, 3, none⟩) (by dsimp only; omega) (.slice go q.length qc)).setOff (a := ⟨w2.heap.size, 4, none⟩) (by dsimp only; omega) (.slice none 0 0)))
  rw [← hV] at K6
  have H6 : Hid (w6 = ((w5.setCell ⟨w2.heap.size, 3, none⟩ (.slice go q.length qc)).setCell ⟨w2.heap.size, 4, none⟩ (.slice none 0 0))) := hV
  clear hV XA5 XR5 XN5 XD5 F5 K5
  rw [← H6.out]
  clear H6
  have a0 := XA6.out.c 0 rfl
  have af0 := XA6.out.f 0 rfl
  have a1 := XA6.out.c 1 rfl
  have af1 := XA6.out.f 1 rfl
  have a2 := XA6.out.c 2 rfl
  have af2 := XA6.out.f 2 rfl
  have a3 := XA6.out.c 3 rfl
  have af3 := XA6.out.f 3 rfl
  have a4 := XA6.out.c 4 rfl
  have af4 := XA6.out.f 4 rfl
  have az := XA6.out.size
  have r0 := XR6.out.c 0 rfl
  have rf0 := XR6.out.f 0 rfl
  have r1 := XR6.out.c 1 rfl
  have rf1 := XR6.out.f 1 rfl
  have r2 := XR6.out.c 2 rfl
  have rf2 := XR6.out.f 2 rfl
  have r3 := XR6.out.c 3 rfl
  have rf3 := XR6.out.f 3 rfl
  have r4 := XR6.out.c 4 rfl
  have rf4 := XR6.out.f 4 rfl
  have rz := XR6.out.size
  have n0 := XN6.out.c 0 rfl
  have nf0 := XN6.out.f 0 rfl
  have n1 := XN6.out.c 1 rfl
  have nf1 := XN6.out.f 1 rfl
  have n2 := XN6.out.c 2 rfl
  have nf2 := XN6.out.f 2 rfl
  have n3 := XN6.out.c 3 rfl
  have nf3 := XN6.out.f 3 rfl
  have n4 := XN6.out.c 4 rfl
  have nf4 := XN6.out.f 4 rfl
  have nz := XN6.out.size
  have d0 := XD6.out.c 0 rfl
  have df0 := XD6.out.f 0 rfl
  have d1 := XD6.out.c 1 rfl
  have df1 := XD6.out.f 1 rfl
  have dz := XD6.out.size
  go_wp2
  refine bodyPost_ret (v := .tuple #[.agg #[.int .i64 kap, .bool cl, .slice bo1 b.length bc1, .slice go q.length qc, .slice none 0 0], .int .i64 0]) (by simp [results, Try.results9, go_sem, r0, r1, r2, r3, r4]) rfl ?_
  rw [HR.out]
  exact ⟨⟨_, _, _, _, none, 0, rfl, (((((((F6.out.setOff (a := ⟨w.heap.size + 1, 0, none⟩) (by dsimp only; omega) _).setOff (a := ⟨w.heap.size + 1, 1, none⟩) (by dsimp only; omega) _).setOff (a := ⟨w.heap.size + 1, 2, none⟩) (by dsimp only; omega) _).setOff (a := ⟨w.heap.size + 1, 3, none⟩) (by dsimp only; omega) _).setOff (a := ⟨w.heap.size + 1, 4, none⟩) (by dsimp only; omega) _).1.wide (by omega) (Nat.le_refl _)).low (Nat.le_refl _)), (((((((K6.out.setOff (a := ⟨w.heap.size + 1, 0, none⟩) (by dsimp only; omega) _).setOff (a := ⟨w.heap.size + 1, 1, none⟩) (by dsimp only; omega) _).setOff (a := ⟨w.heap.size + 1, 2, none⟩) (by dsimp only; omega) _).setOff (a := ⟨w.heap.size + 1, 3, none⟩) (by dsimp only; omega) _).setOff (a := ⟨w.heap.size + 1, 4, none⟩) (by dsimp only; omega) _).wide (by omega) (Nat.le_refl _)).low (Nat.le_refl _)), .inl rfl, .inr (.inl rfl)⟩, (((((hB6.setCell (p := ⟨w.heap.size + 1, 0, none⟩) (by dsimp only; omega) _).setCell (p := ⟨w.heap.size + 1, 1, none⟩) (by dsimp only; omega) _).setCell (p := ⟨w.heap.size + 1, 2, none⟩) (by dsimp only; omega) _).setCell (p := ⟨w.heap.size + 1, 3, none⟩) (by dsimp only; omega) _).setCell (p := ⟨w.heap.size + 1, 4, none⟩) (by dsimp only; omega) _)⟩
set_option maxRecDepth 10000 in
set_option maxHeartbeats 8000000 in
theorem specGive_any (kap : Int) (cl : Bool) (bo : Option Addr) (bc : Nat) (b : List Int) (so : Option Addr) (sc : Nat) (s : List (Int × Int × Int)) (ro : Option Addr) (rc : Nat) (r : List (Int × Int × Int)) (w : World) (hlb : b.length ≤ 1048576) (hls : s.length ≤ 1048576) (hlr : r.length ≤ 1048576) (hz : InBox w.heap.size w bo b so s ro r) (hwf : WfBox bo bc so sc ro rc) :
    Calls Try.prog 39 #[.agg #[.int .i64 kap, .bool cl, .slice bo b.length bc, .slice so s.length sc, .slice ro r.length rc]] w fun e w' => AnsN w (giveR kap cl b s r) e w' := by
  cases hg : goodX kap b s r
  · have HG : Hid (goodX kap b s r = false) := hg
    have HR : Hid (giveR kap cl b s r = (0, false, [], [], [], 1)) := giveR_bad hg
    clear hg
    obtain ⟨w0, hw0⟩ : ∃ w0, w0 = ((w.alloc (.cells #[.int .i64 kap, .bool cl, .slice bo b.length bc, .slice so s.length sc, .slice ro r.length rc] 26)).alloc (.cells #[.int .i64 0, .bool false, .slice none 0 0, .slice none 0 0, .slice none 0 0] 26)) := ⟨_, rfl⟩
    have hB0 : Below w.heap.size w w0 := by rw [hw0]; exact Below.allocS (Below.allocS (Below.refl _ _) _) _
    have XA0 : Hid (Bx w0 (w.heap.size) [.int .i64 kap, .bool cl, .slice bo b.length bc, .slice so s.length sc, .slice ro r.length rc]) := by rw [hw0]; exact Bx.alloc (Bx.new [.int .i64 kap, .bool cl, .slice bo b.length bc, .slice so s.length sc, .slice ro r.length rc] _ rfl) _
    have XR0 : Hid (Bx w0 (w.heap.size + 1) [.int .i64 0, .bool false, .slice none 0 0, .slice none 0 0, .slice none 0 0]) := by rw [hw0]; exact Bx.new [.int .i64 0, .bool false, .slice none 0 0, .slice none 0 0, .slice none 0 0] _ (by simp)
    have H0 : Hid (w0 = ((w.alloc (.cells #[.int .i64 kap, .bool cl, .slice bo b.length bc, .slice so s.length sc, .slice ro r.length rc] 26)).alloc (.cells #[.int .i64 0, .bool false, .slice none 0 0, .slice none 0 0, .slice none 0 0] 26))) := hw0
    have hs0 : w.heap.size + 1 + 1 ≤ w0.heap.size := by rw [hw0]; simp
    clear hw0
    go_enter Try.func39, Try.ntmps39
    go_wp2_with fail
    rw [← H0.out]
    refine (specGood_is kap cl bo bc b so sc s ro rc r w0 false hlb hls hlr (hz.later hB0) HG.out).mono ?_
    rintro e w1 ⟨rfl, hb1⟩
    have hB1 := hB0.trans (hb1.mono hB0.size)
    have hs1 : w.heap.size + 1 + 1 ≤ w1.heap.size := Nat.le_trans hs0 hb1.size
    have hz1 : w0.heap.size ≤ w1.heap.size := hb1.size
    have XA1 := hid (XA0.out.later hb1)
    have XR1 := hid (XR0.out.later hb1)
    clear XA0 XR0
    clear hb1
    have a0 := XA1.out.c 0 rfl
    have af0 := XA1.out.f 0 rfl
    have a1 := XA1.out.c 1 rfl
    have af1 := XA1.out.f 1 rfl
    have a2 := XA1.out.c 2 rfl
    have af2 := XA1.out.f 2 rfl
    have a3 := XA1.out.c 3 rfl
    have af3 := XA1.out.f 3 rfl
    have a4 := XA1.out.c 4 rfl
    have af4 := XA1.out.f 4 rfl
    have az := XA1.out.size
    have r0 := XR1.out.c 0 rfl
    have rf0 := XR1.out.f 0 rfl
    have r1 := XR1.out.c 1 rfl
    have rf1 := XR1.out.f 1 rfl
    have r2 := XR1.out.c 2 rfl
    have rf2 := XR1.out.f 2 rfl
    have r3 := XR1.out.c 3 rfl
    have rf3 := XR1.out.f 3 rfl
    have r4 := XR1.out.c 4 rfl
    have rf4 := XR1.out.f 4 rfl
    have rz := XR1.out.size
    go_wp2
    refine bodyPost_ret (v := .tuple #[.agg #[.int .i64 0, .bool false, .slice none 0 0, .slice none 0 0, .slice none 0 0], .int .i64 1]) (by simp [results, Try.results39, go_sem, r0, r1, r2, r3, r4]) rfl ?_
    rw [HR.out]
    exact ⟨⟨none, 0, none, 0, none, 0, rfl, frBox_nil _ _ _⟩, (((((hB1.setCell (p := ⟨w.heap.size + 1, 0, none⟩) (by dsimp only; omega) _).setCell (p := ⟨w.heap.size + 1, 1, none⟩) (by dsimp only; omega) _).setCell (p := ⟨w.heap.size + 1, 2, none⟩) (by dsimp only; omega) _).setCell (p := ⟨w.heap.size + 1, 3, none⟩) (by dsimp only; omega) _).setCell (p := ⟨w.heap.size + 1, 4, none⟩) (by dsimp only; omega) _)⟩
  have HG : Hid (goodX kap b s r = true) := hg
  obtain ⟨q, eq⟩ : ∃ q, r ++ s = q := ⟨_, rfl⟩
  have HR : Hid (giveR kap cl b s r = (kap, cl, b, q, [], 0)) := by rw [Hid, giveR, if_pos hg, eq]
  have HQ := hid eq
  have hq1 : s.length + r.length ≤ 1048576 := by have := goodX_good hg; omega
  clear hg eq
  obtain ⟨w0, hw0⟩ : ∃ w0, w0 = ((w.alloc (.cells #[.int .i64 kap, .bool cl, .slice bo b.length bc, .slice so s.length sc, .slice ro r.length rc] 26)).alloc (.cells #[.int .i64 0, .bool false, .slice none 0 0, .slice none 0 0, .slice none 0 0] 26)) := ⟨_, rfl⟩
  have hB0 : Below w.heap.size w w0 := by rw [hw0]; exact Below.allocS (Below.allocS (Below.refl _ _) _) _
  have XA0 : Hid (Bx w0 (w.heap.size) [.int .i64 kap, .bool cl, .slice bo b.length bc, .slice so s.length sc, .slice ro r.length rc]) := by rw [hw0]; exact Bx.alloc (Bx.new [.int .i64 kap, .bool cl, .slice bo b.length bc, .slice so s.length sc, .slice ro r.length rc] _ rfl) _
  have XR0 : Hid (Bx w0 (w.heap.size + 1) [.int .i64 0, .bool false, .slice none 0 0, .slice none 0 0, .slice none 0 0]) := by rw [hw0]; exact Bx.new [.int .i64 0, .bool false, .slice none 0 0, .slice none 0 0, .slice none 0 0] _ (by simp)
  have H0 : Hid (w0 = ((w.alloc (.cells #[.int .i64 kap, .bool cl, .slice bo b.length bc, .slice so s.length sc, .slice ro r.length rc] 26)).alloc (.cells #[.int .i64 0, .bool false, .slice none 0 0, .slice none 0 0, .slice none 0 0] 26))) := hw0
  have hs0 : w.heap.size + 1 + 1 ≤ w0.heap.size := by rw [hw0]; simp
  clear hw0
  go_enter Try.func39, Try.ntmps39
  go_wp2_with fail
  rw [← H0.out]
  refine (specGood_is kap cl bo bc b so sc s ro rc r w0 true hlb hls hlr (hz.later hB0) HG.out).mono ?_
  rintro e w1 ⟨rfl, hb1⟩
  have hB1 := hB0.trans (hb1.mono hB0.size)
  have hs1 : w.heap.size + 1 + 1 ≤ w1.heap.size := Nat.le_trans hs0 hb1.size
  have hz1 : w0.heap.size ≤ w1.heap.size := hb1.size
  have XA1 := hid (XA0.out.later hb1)
  have XR1 := hid (XR0.out.later hb1)
  clear XA0 XR0
  clear hb1
  have a0 := XA1.out.c 0 rfl
  have af0 := XA1.out.f 0 rfl
  have a1 := XA1.out.c 1 rfl
  have af1 := XA1.out.f 1 rfl
  have a2 := XA1.out.c 2 rfl
  have af2 := XA1.out.f 2 rfl
  have a3 := XA1.out.c 3 rfl
  have af3 := XA1.out.f 3 rfl
  have a4 := XA1.out.c 4 rfl
  have af4 := XA1.out.f 4 rfl
  have az := XA1.out.size
  have r0 := XR1.out.c 0 rfl
  have rf0 := XR1.out.f 0 rfl
  have r1 := XR1.out.c 1 rfl
  have rf1 := XR1.out.f 1 rfl
  have r2 := XR1.out.c 2 rfl
  have rf2 := XR1.out.f 2 rfl
  have r3 := XR1.out.c 3 rfl
  have rf3 := XR1.out.f 3 rfl
  have r4 := XR1.out.c 4 rfl
  have rf4 := XR1.out.f 4 rfl
  have rz := XR1.out.size
  go_wp2_with fail
  clear a0 af0 a1 af1 a2 af2 a3 af3 a4 af4 az r0 rf0 r1 rf1 r2 rf2 r3 rf3 r4 rf4 rz
  refine (ownBox_any kap cl bo bc b so sc s ro rc r w1 hlb hls hlr (hz.later hB1) hwf).mono ?_
  rintro e w2 ⟨⟨gb, bc1, gs, sc1, gr, rc1, rfl, hF⟩, hb2⟩
  have hB2 := hB1.trans (hb2.mono hB1.size)
  have hs2 : w.heap.size + 1 + 1 ≤ w2.heap.size := Nat.le_trans hs1 hb2.size
  have hz2 : w1.heap.size ≤ w2.heap.size := hb2.size
  have XA2 := hid (XA1.out.later hb2)
  have XR2 := hid (XR1.out.later hb2)
  clear XA1 XR1
  have F2 := hid (hF)
  clear hb2 hF
  have a0 := XA2.out.c 0 rfl
  have af0 := XA2.out.f 0 rfl
  have a1 := XA2.out.c 1 rfl
  have af1 := XA2.out.f 1 rfl
  have a2 := XA2.out.c 2 rfl
  have af2 := XA2.out.f 2 rfl
  have a3 := XA2.out.c 3 rfl
  have af3 := XA2.out.f 3 rfl
  have a4 := XA2.out.c 4 rfl
  have af4 := XA2.out.f 4 rfl
  have az := XA2.out.size
  have r0 := XR2.out.c 0 rfl
  have rf0 := XR2.out.f 0 rfl
  have r1 := XR2.out.c 1 rfl
  have rf1 := XR2.out.f 1 rfl
  have r2 := XR2.out.c 2 rfl
  have rf2 := XR2.out.f 2 rfl
  have r3 := XR2.out.c 3 rfl
  have rf3 := XR2.out.f 3 rfl
  have r4 := XR2.out.c 4 rfl
  have rf4 := XR2.out.f 4 rfl
  have rz := XR2.out.size
  go_upto_region 4 with fail
  clear a0 af0 a1 af1 a2 af2 a3 af3 a4 af4 az r0 rf0 r1 rf1 r2 rf2 r3 rf3 r4 rf4 rz
  obtain ⟨w3, hV⟩ : ∃ V, V = (((((w2.setCell ⟨w.heap.size, 0, none⟩ (.int .i64 kap)).setCell ⟨w.heap.size, 1, none⟩ (.bool cl)).setCell ⟨w.heap.size, 2, none⟩ (.slice (some ⟨gb, 0, none⟩) b.length bc1)).setCell ⟨w.heap.size, 3, none⟩ (.slice (some ⟨gs, 0, none⟩) s.length sc1)).setCell ⟨w.heap.size, 4, none⟩ (.slice (some ⟨gr, 0, none⟩) r.length rc1)) := ⟨_, rfl⟩
  have hz3 : w2.heap.size ≤ w3.heap.size := by rw [hV]; simp [World.setCell]
  have hs3 : w.heap.size + 1 + 1 ≤ w3.heap.size := Nat.le_trans hs2 hz3
  have hB3 : Below w.heap.size w w3 := by rw [hV]; exact (((((hB2.setCell (p := ⟨w.heap.size, 0, none⟩) (by dsimp only; omega) _).setCell (p := ⟨w.heap.size, 1, none⟩) (by dsimp only; omega) _).setCell (p := ⟨w.heap.size, 2, none⟩) (by dsimp only; omega) _).setCell (p := ⟨w.heap.size, 3, none⟩) (by dsimp only; omega) _).setCell (p := ⟨w.heap.size, 4, none⟩) (by dsimp only; omega) _)
  have XA3 := hid ((((((XA2.out.set 0 (.int .i64 kap)).set 1 (.bool cl)).set 2 (.slice (some ⟨gb, 0, none⟩) b.length bc1)).set 3 (.slice (some ⟨gs, 0, none⟩) s.length sc1)).set 4 (.slice (some ⟨gr, 0, none⟩) r.length rc1)))
  rw [← hV] at XA3
  have XR3 := hid ((((((XR2.out.other (a := ⟨w.heap.size, 0, none⟩) (by dsimp only; omega) (.int .i64 kap)).other (a := ⟨w.heap.size, 1, none⟩) (by dsimp only; omega) (.bool cl)).other (a := ⟨w.heap.size, 2, none⟩) (by dsimp only; omega) (.slice (some ⟨gb, 0, none⟩) b.length bc1)).other (a := ⟨w.heap.size, 3, none⟩) (by dsimp only; omega) (.slice (some ⟨gs, 0, none⟩) s.length sc1)).other (a := ⟨w.heap.size, 4, none⟩) (by dsimp only; omega) (.slice (some ⟨gr, 0, none⟩) r.length rc1)))
  rw [← hV] at XR3
  have F3 := hid ((((((F2.out.setBelow (a := ⟨w.heap.size, 0, none⟩) (by dsimp only; omega) (.int .i64 kap)).setBelow (a := ⟨w.heap.size, 1, none⟩) (by dsimp only; omega) (.bool cl)).setBelow (a := ⟨w.heap.size, 2, none⟩) (by dsimp only; omega) (.slice (some ⟨gb, 0, none⟩) b.length bc1)).setBelow (a := ⟨w.heap.size, 3, none⟩) (by dsimp only; omega) (.slice (some ⟨gs, 0, none⟩) s.length sc1)).setBelow (a := ⟨w.heap.size, 4, none⟩) (by dsimp only; omega) (.slice (some ⟨gr, 0, none⟩) r.length rc1)))
  rw [← hV] at F3
  have H3 : Hid (w3 = (((((w2.setCell ⟨w.heap.size, 0, none⟩ (.int .i64 kap)).setCell ⟨w.heap.size, 1, none⟩ (.bool cl)).setCell ⟨w.heap.size, 2, none⟩ (.slice (some ⟨gb, 0, none⟩) b.length bc1)).setCell ⟨w.heap.size, 3, none⟩ (.slice (some ⟨gs, 0, none⟩) s.length sc1)).setCell ⟨w.heap.size, 4, none⟩ (.slice (some ⟨gr, 0, none⟩) r.length rc1))) := hV
  clear hV XA2 XR2 F2
  rw [← H3.out]
  clear H3
  obtain ⟨V, hV⟩ : ∃ V, V = (w3.alloc (.cells #[] 29)).drew := ⟨_, rfl⟩
  have hBV : Below w3.heap.size w3 V := by rw [hV]; exact ((Below.refl _ _).alloc (Nat.le_refl _) _).drew
  have HV := hid hV
  have XAV := hid (XA3.out.later hBV)
  have FV := hid (F3.out.below hBV)
  have HE : Hid (kL.Own w3.heap.size V (.slice (some ⟨w3.heap.size, 0, none⟩) 0 0) []) := by rw [hV]; exact (Kind.Own.new kL _ w3 (Nat.le_refl _)).below (Below.refl _ _).drew
  have hVs := hBV.size
  clear hV
  have M0 := hid (OBox.fr F3.out)
  have a0 := XA3.out.c 0 rfl
  have af0 := XA3.out.f 0 rfl
  have a1 := XA3.out.c 1 rfl
  have af1 := XA3.out.f 1 rfl
  have a2 := XA3.out.c 2 rfl
  have af2 := XA3.out.f 2 rfl
  have a3 := XA3.out.c 3 rfl
  have af3 := XA3.out.f 3 rfl
  have a4 := XA3.out.c 4 rfl
  have af4 := XA3.out.f 4 rfl
  have az := XA3.out.size
  have r0 := XR3.out.c 0 rfl
  have rf0 := XR3.out.f 0 rfl
  have r1 := XR3.out.c 1 rfl
  have rf1 := XR3.out.f 1 rfl
  have r2 := XR3.out.c 2 rfl
  have rf2 := XR3.out.f 2 rfl
  have r3 := XR3.out.c 3 rfl
  have rf3 := XR3.out.f 3 rfl
  have r4 := XR3.out.c 4 rfl
  have rf4 := XR3.out.f 4 rfl
  have rz := XR3.out.size
  have PD : w3.drew.cell? ⟨w.heap.size, 4, none⟩ = some (.slice (some ⟨gr, 0, none⟩) r.length rc1) ∧ w3.drew.cell? ⟨w.heap.size, 3, none⟩ = some (.slice (some ⟨gs, 0, none⟩) s.length sc1) := ⟨a4, a3⟩
  have PV : V.cell? ⟨w.heap.size, 4, none⟩ = some (.slice (some ⟨gr, 0, none⟩) r.length rc1) ∧ V.cell? ⟨w.heap.size, 3, none⟩ = some (.slice (some ⟨gs, 0, none⟩) s.length sc1) := ⟨XAV.out.c 4 rfl, XAV.out.c 3 rfl⟩
  rw [HV.out] at PV
  go_region_law (first
    | (rw [← HV.out]; refine Kind.appS kL_ok V (by rfl) (.tmp 10) (.tmp 12) (by rfl) w3.heap.size (.slice (some ⟨w3.heap.size, 0, none⟩) 0 0) [] (by rfl) HE.out hVs (some ⟨gr, 0, none⟩) r r.length rc1 (by rfl) rfl (by simp) _ (OBox.in FV.out).2.2 (by simp; omega) ?_; intro v1 w5 hO hB hG hn; have hb5 : Below w3.heap.size w3 w5 := hBV.trans hB; have O1 : Hid (kL.Own w3.heap.size w5 v1 r) := hO; have hs5 := hb5.size; have F5 := hid (F3.out.below hb5); have XA5 := hid (XA3.out.later hb5); have P1 := XA5.out.c 3 rfl; have P1b := XA5.out.c 4 rfl; clear hO hB hG hn)
    | (refine Kind.appS kL_ok w5 (by rfl) (.tmp 13) (.tmp 15) (by rfl) w3.heap.size v1 r (by rfl) O1.out hs5 (some ⟨gs, 0, none⟩) s s.length sc1 (by rfl) rfl (by simp) _ (OBox.in F5.out).2.1 (by omega) ?_; intro v2 w6 hO hB hG hn; have hb6 : Below w3.heap.size w3 w6 := hb5.trans hB; rw [HQ.out] at hO; obtain ⟨go, qc, rfl, _, hK⟩ := Kind.Own.fresh hO; have K6 := hid hK; have O6 := hid hO; have XA6 := hid (XA3.out.later hb6); have XR6 := hid (XR3.out.later hb6); have F6 := hid (F3.out.below hb6); have M6 := hid (M0.out.later hb6); have hB6 := hB3.trans (hb6.mono hB3.size); have hz6 : w3.heap.size ≤ w6.heap.size := hb6.size; have hs6 := Nat.le_trans hs3 hb6.size; have e3 := XA6.out.c 3 rfl; have ef3 := XA6.out.f 3 rfl; clear hO hB hG hn hK))
  all_goals
    clear PD PV P1 P1b e3 ef3 XA5 F5 O1 hb5 hb6 XAV FV HE HV hBV a0 af0 a1 af1 a2 af2 a3 af3 a4 af4 az r0 rf0 r1 rf1 r2 rf2 r3 rf3 r4 rf4 rz
    have a0 := XA6.out.c 0 rfl
    have af0 := XA6.out.f 0 rfl
    have a1 := XA6.out.c 1 rfl
    have af1 := XA6.out.f 1 rfl
    have a2 := XA6.out.c 2 rfl
    have af2 := XA6.out.f 2 rfl
    have a3 := XA6.out.c 3 rfl
    have af3 := XA6.out.f 3 rfl
    have a4 := XA6.out.c 4 rfl
    have af4 := XA6.out.f 4 rfl
    have az := XA6.out.size
    have r0 := XR6.out.c 0 rfl
    have rf0 := XR6.out.f 0 rfl
    have r1 := XR6.out.c 1 rfl
    have rf1 := XR6.out.f 1 rfl
    have r2 := XR6.out.c 2 rfl
    have rf2 := XR6.out.f 2 rfl
    have r3 := XR6.out.c 3 rfl
    have rf3 := XR6.out.f 3 rfl
    have r4 := XR6.out.c 4 rfl
    have rf4 := XR6.out.f 4 rfl
    have rz := XR6.out.size
    go_upto_region 6 with fail
    clear a0 af0 a1 af1 a2 af2 a3 af3 a4 af4 az r0 rf0 r1 rf1 r2 rf2 r3 rf3 r4 rf4 rz
    obtain ⟨w7, hV⟩ : ∃ V, V = ((w6.setCell ⟨w.heap.size, 3, none⟩ (.slice go q.length qc)).setCell ⟨w.heap.size, 4, none⟩ (.slice none 0 0)) := ⟨_, rfl⟩
    have hz7 : w6.heap.size ≤ w7.heap.size := by rw [hV]; simp [World.setCell]
    have hs7 : w.heap.size + 1 + 1 ≤ w7.heap.size := Nat.le_trans hs6 hz7
    have hB7 : Below w.heap.size w w7 := by rw [hV]; exact ((hB6.setCell (p := ⟨w.heap.size, 3, none⟩) (by dsimp only; omega) _).setCell (p := ⟨w.heap.size, 4, none⟩) (by dsimp only; omega) _)
    have XA7 := hid (((XA6.out.set 3 (.slice go q.length qc)).set 4 (.slice none 0 0)))
    rw [← hV] at XA7
    have XR7 := hid (((XR6.out.other (a := ⟨w.heap.size, 3, none⟩) (by dsimp only; omega) (.slice go q.length qc)).other (a := ⟨w.heap.size, 4, none⟩) (by dsimp only; omega) (.slice none 0 0)))
    rw [← hV] at XR7
    have F7 := hid (((F6.out.setBelow (a := ⟨w.heap.size, 3, none⟩) (by dsimp only; omega) (.slice go q.length qc)).setBelow (a := ⟨w.heap.size, 4, none⟩) (by dsimp only; omega) (.slice none 0 0)))
    rw [← hV] at F7
    have K7 := hid (((K6.out.setOff (a := ⟨w.heap.size, 3, none⟩) (by dsimp only; omega) (.slice go q.length qc)).setOff (a := ⟨w.heap.size, 4, none⟩) (by dsimp only; omega) (.slice none 0 0)))
    rw [← hV] at K7
    have M7 := hid (((M6.out.setOff (a := ⟨w.heap.size, 3, none⟩) (by dsimp only; omega) (.slice go q.length qc)).setOff (a := ⟨w.heap.size, 4, none⟩) (by dsimp only; omega) (.slice none 0 0)))
    rw [← hV] at M7
    have O7 := hid (((O6.out.setBelow (a := ⟨w.heap.size, 3, none⟩) (by dsimp only; omega) (.slice go q.length qc)).setBelow (a := ⟨w.heap.size, 4, none⟩) (by dsimp only; omega) (.slice none 0 0)))
    rw [← hV] at O7
    have H7 : Hid (w7 = ((w6.setCell ⟨w.heap.size, 3, none⟩ (.slice go q.length qc)).setCell ⟨w.heap.size, 4, none⟩ (.slice none 0 0))) := hV
    clear hV XA6 XR6 F6 K6 M6 O6
    rw [← H7.out]
    clear H7
    have a0 := XA7.out.c 0 rfl
    have af0 := XA7.out.f 0 rfl
    have a1 := XA7.out.c 1 rfl
    have af1 := XA7.out.f 1 rfl
    have a2 := XA7.out.c 2 rfl
    have af2 := XA7.out.f 2 rfl
    have a3 := XA7.out.c 3 rfl
    have af3 := XA7.out.f 3 rfl
    have a4 := XA7.out.c 4 rfl
    have af4 := XA7.out.f 4 rfl
    have az := XA7.out.size
    have r0 := XR7.out.c 0 rfl
    have rf0 := XR7.out.f 0 rfl
    have r1 := XR7.out.c 1 rfl
    have rf1 := XR7.out.f 1 rfl
    have r2 := XR7.out.c 2 rfl
    have rf2 := XR7.out.f 2 rfl
    have r3 := XR7.out.c 3 rfl
    have rf3 := XR7.out.f 3 rfl
    have r4 := XR7.out.c 4 rfl
    have rf4 := XR7.out.f 4 rfl
    have rz := XR7.out.size
    go_wp2
    refine bodyPost_ret (v := .tuple #[.agg #[.int .i64 kap, .bool cl, .slice (some ⟨gb, 0, none⟩) b.length bc1, .slice go q.length qc, .slice none 0 0], .int .i64 0]) (by simp [results, Try.results39, go_sem, r0, r1, r2, r3, r4]) rfl ?_
    rw [HR.out]
    exact ⟨⟨_, _, _, _, none, 0, rfl, (((((((M7.out.setOff (a := ⟨w.heap.size + 1, 0, none⟩) (by dsimp only; omega) _).setOff (a := ⟨w.heap.size + 1, 1, none⟩) (by dsimp only; omega) _).setOff (a := ⟨w.heap.size + 1, 2, none⟩) (by dsimp only; omega) _).setOff (a := ⟨w.heap.size + 1, 3, none⟩) (by dsimp only; omega) _).setOff (a := ⟨w.heap.size + 1, 4, none⟩) (by dsimp only; omega) _).1.wide (by omega) (Nat.le_refl _)).low (Nat.le_refl _)), (((((((K7.out.setOff (a := ⟨w.heap.size + 1, 0, none⟩) (by dsimp only; omega) _).setOff (a := ⟨w.heap.size + 1, 1, none⟩) (by dsimp only; omega) _).setOff (a := ⟨w.heap.size + 1, 2, none⟩) (by dsimp only; omega) _).setOff (a := ⟨w.heap.size + 1, 3, none⟩) (by dsimp only; omega) _).setOff (a := ⟨w.heap.size + 1, 4, none⟩) (by dsimp only; omega) _).wide (by omega) (Nat.le_refl _)).low (Nat.le_refl _)), .inl rfl, .inr (.inl rfl)⟩, (((((hB7.setCell (p := ⟨w.heap.size + 1, 0, none⟩) (by dsimp only; omega) _).setCell (p := ⟨w.heap.size + 1, 1, none⟩) (by dsimp only; omega) _).setCell (p := ⟨w.heap.size + 1, 2, none⟩) (by dsimp only; omega) _).setCell (p := ⟨w.heap.size + 1, 3, none⟩) (by dsimp only; omega) _).setCell (p := ⟨w.heap.size + 1, 4, none⟩) (by dsimp only; omega) _)⟩
end Go.Proofs.Ytnnlbnbamhkcaaa
