
/- TakeNext: the program. No conditions but those written. -/
import Derived.Test.YtnnlbnbamhkcaaaEj
import Derived.Deep.Cut
namespace Go.Proofs.Ytnnlbnbamhkcaaa
open Go.RowKit

theorem takenS_as (x : Int) (kap : Int) (cl : Bool) (bo : Option Addr) (bc : Nat) (b : List Int) (so : Option Addr) (sc : Nat) (s : List (Int × Int × Int)) (ro : Option Addr) (rc : Nat) (r : List (Int × Int × Int)) (w : World) (hlb : b.length ≤ 1048576) (hls : s.length ≤ 1048576) (hlr : r.length ≤ 1048576) (hz : InBox w.heap.size w bo b so s ro r) (hbp : 0 < b.length) (Rb : List Int) (h : b.drop 1 = Rb) :
    Calls Try.prog 62 #[.int .i64 x, .agg #[.int .i64 kap, .bool cl, .slice bo b.length bc, .slice so s.length sc, .slice ro r.length rc]] w fun e w' => AnsBox w kap cl Rb s r e w' := by
  subst h; exact takenS_any x kap cl bo bc b so sc s ro rc r w hlb hls hlr hz hbp
theorem takenL_as (iv jv kv : Int) (kap : Int) (cl : Bool) (bo : Option Addr) (bc : Nat) (b : List Int) (so : Option Addr) (sc : Nat) (s : List (Int × Int × Int)) (ro : Option Addr) (rc : Nat) (r : List (Int × Int × Int)) (w : World) (hlb : b.length ≤ 1048576) (hls : s.length ≤ 1048576) (hlr : r.length ≤ 1048576) (hz : InBox w.heap.size w bo b so s ro r) (hsp : 0 < s.length) (Rs Rr : List (Int × Int × Int)) (h : s.drop 1 = Rs) (h' : r ++ [(iv, jv, kv)] = Rr) :
    Calls Try.prog 69 #[.agg #[.int .i64 iv, .int .i64 jv, .int .i64 kv], .agg #[.int .i64 kap, .bool cl, .slice bo b.length bc, .slice so s.length sc, .slice ro r.length rc]] w fun e w' => AnsBox w kap cl b Rs Rr e w' := by
  subst h; subst h'; exact takenL_any iv jv kv kap cl bo bc b so sc s ro rc r w hlb hls hlr hz hsp
set_option maxRecDepth 10000 in
set_option maxHeartbeats 8000000 in
theorem implTake_any (kap : Int) (cl : Bool) (bo : Option Addr) (bc : Nat) (b : List Int) (so : Option Addr) (sc : Nat) (s : List (Int × Int × Int)) (ro : Option Addr) (rc : Nat) (r : List (Int × Int × Int)) (w : World) (hlb : b.length ≤ 1048576) (hls : s.length ≤ 1048576) (hlr : r.length ≤ 1048576) (hz : InBox w.heap.size w bo b so s ro r) :
    Calls Try.prog 5 #[.agg #[.int .i64 kap, .bool cl, .slice bo b.length bc, .slice so s.length sc, .slice ro r.length rc]] w fun e w' => AnsT w (takeR kap cl b s r) e w' := by
  cases hg : goodX kap b s r
  · have HG : Hid (goodX kap b s r = false) := hg
    have HR : Hid (takeR kap cl b s r = (0, false, [], [], [], 0, 0, 0, 0, 1)) := takeR_bad hg
    clear hg
    obtain ⟨w0, hw0⟩ : ∃ w0, w0 = (((w.alloc (.cells #[.int .i64 kap, .bool cl, .slice bo b.length bc, .slice so s.length sc, .slice ro r.length rc] 26)).alloc (.cells #[.int .i64 0, .bool false, .slice none 0 0, .slice none 0 0, .slice none 0 0] 26)).alloc (.cells #[.int .i64 0, .int .i64 0, .int .i64 0] 29)) := ⟨_, rfl⟩
    have hB0 : Below w.heap.size w w0 := by rw [hw0]; exact Below.allocS (Below.allocS (Below.allocS (Below.refl _ _) _) _) _
    have XA0 : Hid (Bx w0 (w.heap.size) [.int .i64 kap, .bool cl, .slice bo b.length bc, .slice so s.length sc, .slice ro r.length rc]) := by rw [hw0]; exact Bx.alloc (Bx.alloc (Bx.new [.int .i64 kap, .bool cl, .slice bo b.length bc, .slice so s.length sc, .slice ro r.length rc] _ rfl) _) _
    have XR0 : Hid (Bx w0 (w.heap.size + 1) [.int .i64 0, .bool false, .slice none 0 0, .slice none 0 0, .slice none 0 0]) := by rw [hw0]; exact Bx.alloc (Bx.new [.int .i64 0, .bool false, .slice none 0 0, .slice none 0 0, .slice none 0 0] _ (by simp)) _
    have XT0 : Hid (Bx w0 (w.heap.size + 1 + 1) [.int .i64 0, .int .i64 0, .int .i64 0]) := by rw [hw0]; exact Bx.new [.int .i64 0, .int .i64 0, .int .i64 0] _ (by simp)
    have H0 : Hid (w0 = (((w.alloc (.cells #[.int .i64 kap, .bool cl, .slice bo b.length bc, .slice so s.length sc, .slice ro r.length rc] 26)).alloc (.cells #[.int .i64 0, .bool false, .slice none 0 0, .slice none 0 0, .slice none 0 0] 26)).alloc (.cells #[.int .i64 0, .int .i64 0, .int .i64 0] 29))) := hw0
    have hs0 : w.heap.size + 1 + 1 + 1 ≤ w0.heap.size := by rw [hw0]; simp
    clear hw0
    go_enter Try.func5, Try.ntmps5
    go_wp2_with fail
    rw [← H0.out]
    refine (implGood_is kap cl bo bc b so sc s ro rc r w0 false hlb hls hlr (hz.later hB0) HG.out).mono ?_
    rintro e w1 ⟨rfl, hb1⟩
    have hB1 := hB0.trans (hb1.mono hB0.size)
    have hs1 : w.heap.size + 1 + 1 + 1 ≤ w1.heap.size := Nat.le_trans hs0 hb1.size
    have hz1 : w0.heap.size ≤ w1.heap.size := hb1.size
    have XA1 := hid (XA0.out.later hb1)
    have XR1 := hid (XR0.out.later hb1)
    have XT1 := hid (XT0.out.later hb1)
    clear XA0 XR0 XT0
    clear hb1
    have a0 := XA1.out.c 0 rfl
    have af0 := XA1.out.f 0 rfl
    have a1 := XA1.out.c 1 rfl
    have af1 := XA1.out.f 1 rfl
    have a2 := XA1.out.c 2 rfl
    have af2 := XA1.out.f 2 rfl
    have a3 := XA1.out.c 3 rfl
    have af3 := XA1.out.f 3 rfl
    have a4 := XA1.out.c 4 rfl
    have af4 := XA1.out.f 4 rfl
    have az := XA1.out.size
    have r0 := XR1.out.c 0 rfl
    have rf0 := XR1.out.f 0 rfl
    have r1 := XR1.out.c 1 rfl
    have rf1 := XR1.out.f 1 rfl
    have r2 := XR1.out.c 2 rfl
    have rf2 := XR1.out.f 2 rfl
    have r3 := XR1.out.c 3 rfl
    have rf3 := XR1.out.f 3 rfl
    have r4 := XR1.out.c 4 rfl
    have rf4 := XR1.out.f 4 rfl
    have rz := XR1.out.size
    have t0 := XT1.out.c 0 rfl
    have tf0 := XT1.out.f 0 rfl
    have t1 := XT1.out.c 1 rfl
    have tf1 := XT1.out.f 1 rfl
    have t2 := XT1.out.c 2 rfl
    have tf2 := XT1.out.f 2 rfl
    have tz := XT1.out.size
    go_wp2
    refine bodyPost_ret (v := .tuple #[.agg #[.int .i64 0, .bool false, .slice none 0 0, .slice none 0 0, .slice none 0 0], .int .i64 0, .agg #[.int .i64 0, .int .i64 0, .int .i64 0], .int .i64 1]) (by simp [results, Try.results5, go_sem, r0, r1, r2, r3, r4, t0, t1, t2]) rfl ?_
    rw [HR.out]
    exact ⟨⟨none, 0, none, 0, none, 0, rfl, frBox_nil _ _ _⟩, ((((((((hB1.setCell (p := ⟨w.heap.size + 1, 0, none⟩) (by dsimp only; omega) _).setCell (p := ⟨w.heap.size + 1, 1, none⟩) (by dsimp only; omega) _).setCell (p := ⟨w.heap.size + 1, 2, none⟩) (by dsimp only; omega) _).setCell (p := ⟨w.heap.size + 1, 3, none⟩) (by dsimp only; omega) _).setCell (p := ⟨w.heap.size + 1, 4, none⟩) (by dsimp only; omega) _).setCell (p := ⟨w.heap.size + 1 + 1, 0, none⟩) (by dsimp only; omega) _).setCell (p := ⟨w.heap.size + 1 + 1, 1, none⟩) (by dsimp only; omega) _).setCell (p := ⟨w.heap.size + 1 + 1, 2, none⟩) (by dsimp only; omega) _)⟩
  have HG : Hid (goodX kap b s r = true) := hg
  by_cases hbp : 0 < b.length
  · obtain ⟨x, hx⟩ : ∃ x, el b 0 = x := ⟨_, rfl⟩
    obtain ⟨Rb, hRb⟩ : ∃ l, b.drop 1 = l := ⟨_, rfl⟩
    have HR : Hid (takeR kap cl b s r = (kap, cl, Rb, s, r, x, 0, 0, 0, 0)) := by rw [Hid, takeR, if_pos hg, if_pos hbp, hx, hRb]
    have HXX := hid hx
    have HRb := hid hRb
    clear hg hx hRb
    have hm0 : ∀ W : World, (method 206 62 (.int .i64 x) "loop.example/g00145/impl.takenFrom").run Try.prog W = .ok (62, .int .i64 x) W := fun _ => by kernel_rfl
    have hn0 : ∀ W : World, (nilAhead 206 62 (.int .i64 x) "loop.example/g00145/impl.takenFrom").run Try.prog W = .ok (some false) W := fun _ => by kernel_rfl
    obtain ⟨w0, hw0⟩ : ∃ w0, w0 = (((w.alloc (.cells #[.int .i64 kap, .bool cl, .slice bo b.length bc, .slice so s.length sc, .slice ro r.length rc] 26)).alloc (.cells #[.int .i64 0, .bool false, .slice none 0 0, .slice none 0 0, .slice none 0 0] 26)).alloc (.cells #[.int .i64 0, .int .i64 0, .int .i64 0] 29)) := ⟨_, rfl⟩
    have hB0 : Below w.heap.size w w0 := by rw [hw0]; exact Below.allocS (Below.allocS (Below.allocS (Below.refl _ _) _) _) _
    have XA0 : Hid (Bx w0 (w.heap.size) [.int .i64 kap, .bool cl, .slice bo b.length bc, .slice so s.length sc, .slice ro r.length rc]) := by rw [hw0]; exact Bx.alloc (Bx.alloc (Bx.new [.int .i64 kap, .bool cl, .slice bo b.length bc, .slice so s.length sc, .slice ro r.length rc] _ rfl) _) _
    have XR0 : Hid (Bx w0 (w.heap.size + 1) [.int .i64 0, .bool false, .slice none 0 0, .slice none 0 0, .slice none 0 0]) := by rw [hw0]; exact Bx.alloc (Bx.new [.int .i64 0, .bool false, .slice none 0 0, .slice none 0 0, .slice none 0 0] _ (by simp)) _
    have XT0 : Hid (Bx w0 (w.heap.size + 1 + 1) [.int .i64 0, .int .i64 0, .int .i64 0]) := by rw [hw0]; exact Bx.new [.int .i64 0, .int .i64 0, .int .i64 0] _ (by simp)
    have H0 : Hid (w0 = (((w.alloc (.cells #[.int .i64 kap, .bool cl, .slice bo b.length bc, .slice so s.length sc, .slice ro r.length rc] 26)).alloc (.cells #[.int .i64 0, .bool false, .slice none 0 0, .slice none 0 0, .slice none 0 0] 26)).alloc (.cells #[.int .i64 0, .int .i64 0, .int .i64 0] 29))) := hw0
    have hs0 : w.heap.size + 1 + 1 + 1 ≤ w0.heap.size := by rw [hw0]; simp
    clear hw0
    go_enter Try.func5, Try.ntmps5
    go_wp2_with fail
    rw [← H0.out]
    refine (implGood_is kap cl bo bc b so sc s ro rc r w0 true hlb hls hlr (hz.later hB0) HG.out).mono ?_
    rintro e w1 ⟨rfl, hb1⟩
    have hB1 := hB0.trans (hb1.mono hB0.size)
    have hs1 : w.heap.size + 1 + 1 + 1 ≤ w1.heap.size := Nat.le_trans hs0 hb1.size
    have hz1 : w0.heap.size ≤ w1.heap.size := hb1.size
    have XA1 := hid (XA0.out.later hb1)
    have XR1 := hid (XR0.out.later hb1)
    have XT1 := hid (XT0.out.later hb1)
    clear XA0 XR0 XT0
    clear hb1
    have a0 := XA1.out.c 0 rfl
    have af0 := XA1.out.f 0 rfl
    have a1 := XA1.out.c 1 rfl
    have af1 := XA1.out.f 1 rfl
    have a2 := XA1.out.c 2 rfl
    have af2 := XA1.out.f 2 rfl
    have a3 := XA1.out.c 3 rfl
    have af3 := XA1.out.f 3 rfl
    have a4 := XA1.out.c 4 rfl
    have af4 := XA1.out.f 4 rfl
    have az := XA1.out.size
    have r0 := XR1.out.c 0 rfl
    have rf0 := XR1.out.f 0 rfl
    have r1 := XR1.out.c 1 rfl
    have rf1 := XR1.out.f 1 rfl
    have r2 := XR1.out.c 2 rfl
    have rf2 := XR1.out.f 2 rfl
    have r3 := XR1.out.c 3 rfl
    have rf3 := XR1.out.f 3 rfl
    have r4 := XR1.out.c 4 rfl
    have rf4 := XR1.out.f 4 rfl
    have rz := XR1.out.size
    have t0 := XT1.out.c 0 rfl
    have tf0 := XT1.out.f 0 rfl
    have t1 := XT1.out.c 1 rfl
    have tf1 := XT1.out.f 1 rfl
    have t2 := XT1.out.c 2 rfl
    have tf2 := XT1.out.f 2 rfl
    have tz := XT1.out.size
    go_wp2_with fail
    clear a0 af0 a1 af1 a2 af2 a3 af3 a4 af4 az r0 rf0 r1 rf1 r2 rf2 r3 rf3 r4 rf4 rz t0 tf0 t1 tf1 t2 tf2 tz
    refine (nextS_is kap cl bo bc b so sc s ro rc r w1 hlb hls hlr (hz.later hB1) x hbp HXX.out).mono ?_
    rintro e w2 ⟨rfl, hb2⟩
    have hB2 := hB1.trans (hb2.mono hB1.size)
    have hs2 : w.heap.size + 1 + 1 + 1 ≤ w2.heap.size := Nat.le_trans hs1 hb2.size
    have hz2 : w1.heap.size ≤ w2.heap.size := hb2.size
    have XA2 := hid (XA1.out.later hb2)
    have XR2 := hid (XR1.out.later hb2)
    have XT2 := hid (XT1.out.later hb2)
    clear XA1 XR1 XT1
    clear hb2
    have a0 := XA2.out.c 0 rfl
    have af0 := XA2.out.f 0 rfl
    have a1 := XA2.out.c 1 rfl
    have af1 := XA2.out.f 1 rfl
    have a2 := XA2.out.c 2 rfl
    have af2 := XA2.out.f 2 rfl
    have a3 := XA2.out.c 3 rfl
    have af3 := XA2.out.f 3 rfl
    have a4 := XA2.out.c 4 rfl
    have af4 := XA2.out.f 4 rfl
    have az := XA2.out.size
    have r0 := XR2.out.c 0 rfl
    have rf0 := XR2.out.f 0 rfl
    have r1 := XR2.out.c 1 rfl
    have rf1 := XR2.out.f 1 rfl
    have r2 := XR2.out.c 2 rfl
    have rf2 := XR2.out.f 2 rfl
    have r3 := XR2.out.c 3 rfl
    have rf3 := XR2.out.f 3 rfl
    have r4 := XR2.out.c 4 rfl
    have rf4 := XR2.out.f 4 rfl
    have rz := XR2.out.size
    have t0 := XT2.out.c 0 rfl
    have tf0 := XT2.out.f 0 rfl
    have t1 := XT2.out.c 1 rfl
    have tf1 := XT2.out.f 1 rfl
    have t2 := XT2.out.c 2 rfl
    have tf2 := XT2.out.f 2 rfl
    have tz := XT2.out.size
    go_wp2_with fail
    clear a0 af0 a1 af1 a2 af2 a3 af3 a4 af4 az r0 rf0 r1 rf1 r2 rf2 r3 rf3 r4 rf4 rz t0 tf0 t1 tf1 t2 tf2 tz
    refine (wordS_is x w2).mono ?_
    rintro e w3 ⟨rfl, hb3⟩
    have hB3 := hB2.trans (hb3.mono hB2.size)
    have hs3 : w.heap.size + 1 + 1 + 1 ≤ w3.heap.size := Nat.le_trans hs2 hb3.size
    have hz3 : w2.heap.size ≤ w3.heap.size := hb3.size
    have XA3 := hid (XA2.out.later hb3)
    have XR3 := hid (XR2.out.later hb3)
    have XT3 := hid (XT2.out.later hb3)
    clear XA2 XR2 XT2
    clear hb3
    have a0 := XA3.out.c 0 rfl
    have af0 := XA3.out.f 0 rfl
    have a1 := XA3.out.c 1 rfl
    have af1 := XA3.out.f 1 rfl
    have a2 := XA3.out.c 2 rfl
    have af2 := XA3.out.f 2 rfl
    have a3 := XA3.out.c 3 rfl
    have af3 := XA3.out.f 3 rfl
    have a4 := XA3.out.c 4 rfl
    have af4 := XA3.out.f 4 rfl
    have az := XA3.out.size
    have r0 := XR3.out.c 0 rfl
    have rf0 := XR3.out.f 0 rfl
    have r1 := XR3.out.c 1 rfl
    have rf1 := XR3.out.f 1 rfl
    have r2 := XR3.out.c 2 rfl
    have rf2 := XR3.out.f 2 rfl
    have r3 := XR3.out.c 3 rfl
    have rf3 := XR3.out.f 3 rfl
    have r4 := XR3.out.c 4 rfl
    have rf4 := XR3.out.f 4 rfl
    have rz := XR3.out.size
    have t0 := XT3.out.c 0 rfl
    have tf0 := XT3.out.f 0 rfl
    have t1 := XT3.out.c 1 rfl
    have tf1 := XT3.out.f 1 rfl
    have t2 := XT3.out.c 2 rfl
    have tf2 := XT3.out.f 2 rfl
    have tz := XT3.out.size
    obtain ⟨w4, hV⟩ : ∃ V, V = w3.alloc (.cells #[.int .i64 0, .int .i64 0, .int .i64 0] 29) := ⟨_, rfl⟩
    have hz4 : w3.heap.size ≤ w4.heap.size := by rw [hV]; simp
    have hs4 : w.heap.size + 1 + 1 + 1 ≤ w4.heap.size := Nat.le_trans hs3 hz4
    have hB4 : Below w.heap.size w w4 := by rw [hV]; exact Below.allocS hB3 _
    have XA4 := hid (XA3.out.alloc (.cells #[.int .i64 0, .int .i64 0, .int .i64 0] 29))
    rw [← hV] at XA4
    have XR4 := hid (XR3.out.alloc (.cells #[.int .i64 0, .int .i64 0, .int .i64 0] 29))
    rw [← hV] at XR4
    have XT4 := hid (XT3.out.alloc (.cells #[.int .i64 0, .int .i64 0, .int .i64 0] 29))
    rw [← hV] at XT4
    have H4 : Hid (w4 = w3.alloc (.cells #[.int .i64 0, .int .i64 0, .int .i64 0] 29)) := hV
    clear hV XA3 XR3 XT3
    have XY4 : Hid (Bx w4 w3.heap.size [.int .i64 0, .int .i64 0, .int .i64 0]) := by rw [H4.out]; exact Bx.new [.int .i64 0, .int .i64 0, .int .i64 0] _ rfl
    have hy4 : w3.heap.size < w4.heap.size := XY4.out.size
    go_upto_region 7 with fail
    clear a0 af0 a1 af1 a2 af2 a3 af3 a4 af4 az r0 rf0 r1 rf1 r2 rf2 r3 rf3 r4 rf4 rz t0 tf0 t1 tf1 t2 tf2 tz
    rw [← H4.out]
    have a0 := XA4.out.c 0 rfl
    have af0 := XA4.out.f 0 rfl
    have a1 := XA4.out.c 1 rfl
    have af1 := XA4.out.f 1 rfl
    have a2 := XA4.out.c 2 rfl
    have af2 := XA4.out.f 2 rfl
    have a3 := XA4.out.c 3 rfl
    have af3 := XA4.out.f 3 rfl
    have a4 := XA4.out.c 4 rfl
    have af4 := XA4.out.f 4 rfl
    have az := XA4.out.size
    have r0 := XR4.out.c 0 rfl
    have rf0 := XR4.out.f 0 rfl
    have r1 := XR4.out.c 1 rfl
    have rf1 := XR4.out.f 1 rfl
    have r2 := XR4.out.c 2 rfl
    have rf2 := XR4.out.f 2 rfl
    have r3 := XR4.out.c 3 rfl
    have rf3 := XR4.out.f 3 rfl
    have r4 := XR4.out.c 4 rfl
    have rf4 := XR4.out.f 4 rfl
    have rz := XR4.out.size
    have t0 := XT4.out.c 0 rfl
    have tf0 := XT4.out.f 0 rfl
    have t1 := XT4.out.c 1 rfl
    have tf1 := XT4.out.f 1 rfl
    have t2 := XT4.out.c 2 rfl
    have tf2 := XT4.out.f 2 rfl
    have tz := XT4.out.size
    have y0 := XY4.out.c 0 rfl
    have yf0 := XY4.out.f 0 rfl
    have y1 := XY4.out.c 1 rfl
    have yf1 := XY4.out.f 1 rfl
    have y2 := XY4.out.c 2 rfl
    have yf2 := XY4.out.f 2 rfl
    have yz := XY4.out.size
    go_wp2
    have PD : w4.drew.cell? ⟨w.heap.size, 0, none⟩ = some (.int .i64 kap) ∧ w4.drew.cell? ⟨w.heap.size, 1, none⟩ = some (.bool cl) ∧ w4.drew.cell? ⟨w.heap.size, 2, none⟩ = some (.slice bo b.length bc) ∧ w4.drew.cell? ⟨w.heap.size, 3, none⟩ = some (.slice so s.length sc) ∧ w4.drew.cell? ⟨w.heap.size, 4, none⟩ = some (.slice ro r.length rc) ∧ w4.drew.cell? ⟨w3.heap.size, 0, none⟩ = some (.int .i64 0) ∧ w4.drew.cell? ⟨w3.heap.size, 1, none⟩ = some (.int .i64 0) ∧ w4.drew.cell? ⟨w3.heap.size, 2, none⟩ = some (.int .i64 0) := ⟨a0, a1, a2, a3, a4, y0, y1, y2⟩
    go_region_held3 (fun Y => Y.cell? ⟨w.heap.size, 0, none⟩ = some (.int .i64 kap) ∧ Y.cell? ⟨w.heap.size, 1, none⟩ = some (.bool cl) ∧ Y.cell? ⟨w.heap.size, 2, none⟩ = some (.slice bo b.length bc) ∧ Y.cell? ⟨w.heap.size, 3, none⟩ = some (.slice so s.length sc) ∧ Y.cell? ⟨w.heap.size, 4, none⟩ = some (.slice ro r.length rc) ∧ Y.cell? ⟨w3.heap.size, 0, none⟩ = some (.int .i64 0) ∧ Y.cell? ⟨w3.heap.size, 1, none⟩ = some (.int .i64 0) ∧ Y.cell? ⟨w3.heap.size, 2, none⟩ = some (.int .i64 0))
      (first | ((refine ⟨?_, ?_, ?_, ?_, ?_, ?_, ?_, ?_⟩ <;> (rw [World.cell?_setCell_other _ _ _ _ (by simp <;> omega), World.cell?_setCell_other _ _ _ _ (by simp <;> omega), World.cell?_setCell_other _ _ _ _ (by simp <;> omega), World.cell?_setCell_other _ _ _ _ (by simp <;> omega), World.cell?_setCell_other _ _ _ _ (by simp <;> omega)])); with_reducible exact P5.1; with_reducible exact P5.2.1; with_reducible exact P5.2.2.1; with_reducible exact P5.2.2.2.1; with_reducible exact P5.2.2.2.2.1; with_reducible exact P5.2.2.2.2.2.1; with_reducible exact P5.2.2.2.2.2.2.1; with_reducible exact P5.2.2.2.2.2.2.2) | ((refine ⟨?_, ?_, ?_, ?_, ?_, ?_, ?_, ?_⟩ <;> (rw [World.cell?_setCell_other _ _ _ _ (by simp <;> omega), World.cell?_setCell_other _ _ _ _ (by simp <;> omega), World.cell?_setCell_other _ _ _ _ (by simp <;> omega), World.cell?_setCell_other _ _ _ _ (by simp <;> omega), World.cell?_setCell_other _ _ _ _ (by simp <;> omega), World.cell?_setCell_other _ _ _ _ (by simp <;> omega), World.cell?_setCell_other _ _ _ _ (by simp <;> omega), World.cell?_setCell_other _ _ _ _ (by simp <;> omega)])); with_reducible exact P5.1; with_reducible exact P5.2.1; with_reducible exact P5.2.2.1; with_reducible exact P5.2.2.2.1; with_reducible exact P5.2.2.2.2.1; with_reducible exact P5.2.2.2.2.2.1; with_reducible exact P5.2.2.2.2.2.2.1; with_reducible exact P5.2.2.2.2.2.2.2) | (with_reducible exact ⟨a0, a1, a2, a3, a4, y0, y1, y2⟩) | (with_reducible exact PD) | (with_reducible exact P5))
      (first
        | (go_at_call 62; refine (takenS_as x kap cl bo bc b so sc s ro rc r _ hlb hls hlr (by exact hz.later hB4.drew) hbp Rb HRb.out).mono ?_; rintro e w5 ⟨⟨bo1, bc1, so1, sc1, ro1, rc1, rfl, hF⟩, hy5⟩; have hb5 : Below w4.heap.size w4 w5 := (Below.refl w4.heap.size w4).drew.trans hy5; have hB5 : Below w.heap.size w w5 := hB4.trans (hb5.mono hB4.size); have hs5 : w.heap.size + 1 + 1 + 1 ≤ w5.heap.size := Nat.le_trans hs4 hb5.size; have hz5 : w4.heap.size ≤ w5.heap.size := hb5.size; have XA5 := hid (XA4.out.later hb5); have XR5 := hid (XR4.out.later hb5); have XT5 := hid (XT4.out.later hb5); have XY5 := hid (XY4.out.later hb5); simp only [World.size_drew] at hF; have F5 := hid (hF); have P5 := (⟨XA5.out.c 0 rfl, XA5.out.c 1 rfl, XA5.out.c 2 rfl, XA5.out.c 3 rfl, XA5.out.c 4 rfl, XY5.out.c 0 rfl, XY5.out.c 1 rfl, XY5.out.c 2 rfl⟩ : w5.cell? ⟨w.heap.size, 0, none⟩ = some (.int .i64 kap) ∧ w5.cell? ⟨w.heap.size, 1, none⟩ = some (.bool cl) ∧ w5.cell? ⟨w.heap.size, 2, none⟩ = some (.slice bo b.length bc) ∧ w5.cell? ⟨w.heap.size, 3, none⟩ = some (.slice so s.length sc) ∧ w5.cell? ⟨w.heap.size, 4, none⟩ = some (.slice ro r.length rc) ∧ w5.cell? ⟨w3.heap.size, 0, none⟩ = some (.int .i64 0) ∧ w5.cell? ⟨w3.heap.size, 1, none⟩ = some (.int .i64 0) ∧ w5.cell? ⟨w3.heap.size, 2, none⟩ = some (.int .i64 0)); have ag0 := XA5.out.c 0 rfl; have ah0 := XA5.out.f 0 rfl; have ag1 := XA5.out.c 1 rfl; have ah1 := XA5.out.f 1 rfl; have ag2 := XA5.out.c 2 rfl; have ah2 := XA5.out.f 2 rfl; have ag3 := XA5.out.c 3 rfl; have ah3 := XA5.out.f 3 rfl; have ag4 := XA5.out.c 4 rfl; have ah4 := XA5.out.f 4 rfl; have rg0 := XR5.out.c 0 rfl; have rh0 := XR5.out.f 0 rfl; have rg1 := XR5.out.c 1 rfl; have rh1 := XR5.out.f 1 rfl; have rg2 := XR5.out.c 2 rfl; have rh2 := XR5.out.f 2 rfl; have rg3 := XR5.out.c 3 rfl; have rh3 := XR5.out.f 3 rfl; have rg4 := XR5.out.c 4 rfl; have rh4 := XR5.out.f 4 rfl; have tg0 := XT5.out.c 0 rfl; have th0 := XT5.out.f 0 rfl; have tg1 := XT5.out.c 1 rfl; have th1 := XT5.out.f 1 rfl; have tg2 := XT5.out.c 2 rfl; have th2 := XT5.out.f 2 rfl; have yg0 := XY5.out.c 0 rfl; have yh0 := XY5.out.f 0 rfl; have yg1 := XY5.out.c 1 rfl; have yh1 := XY5.out.f 1 rfl; have yg2 := XY5.out.c 2 rfl; have yh2 := XY5.out.f 2 rfl; clear hy5 hb5 hF))
    all_goals
      go_wp2
      refine bodyPost_ret (v := .tuple #[.agg #[.int .i64 kap, .bool cl, .slice bo1 Rb.length bc1, .slice so1 s.length sc1, .slice ro1 r.length rc1], .int .i64 x, .agg #[.int .i64 0, .int .i64 0, .int .i64 0], .int .i64 0]) (by simp [results, Try.results5, go_sem, rg0, rg1, rg2, rg3, rg4, tg0, tg1, tg2]) rfl ?_
      rw [HR.out]
      exact ⟨⟨_, _, _, _, _, _, rfl, (FrBox.wide ((((((((F5.out.setOff (a := ⟨w.heap.size + 1, 0, none⟩) (by dsimp only; omega) _).setOff (a := ⟨w.heap.size + 1, 1, none⟩) (by dsimp only; omega) _).setOff (a := ⟨w.heap.size + 1, 2, none⟩) (by dsimp only; omega) _).setOff (a := ⟨w.heap.size + 1, 3, none⟩) (by dsimp only; omega) _).setOff (a := ⟨w.heap.size + 1, 4, none⟩) (by dsimp only; omega) _).setOff (a := ⟨w.heap.size + 1 + 1, 0, none⟩) (by dsimp only; omega) _).setOff (a := ⟨w.heap.size + 1 + 1, 1, none⟩) (by dsimp only; omega) _).setOff (a := ⟨w.heap.size + 1 + 1, 2, none⟩) (by dsimp only; omega) _) (by omega) (Nat.le_refl _)).low (Nat.le_refl _)⟩, ((((((((hB5.setCell (p := ⟨w.heap.size + 1, 0, none⟩) (by dsimp only; omega) _).setCell (p := ⟨w.heap.size + 1, 1, none⟩) (by dsimp only; omega) _).setCell (p := ⟨w.heap.size + 1, 2, none⟩) (by dsimp only; omega) _).setCell (p := ⟨w.heap.size + 1, 3, none⟩) (by dsimp only; omega) _).setCell (p := ⟨w.heap.size + 1, 4, none⟩) (by dsimp only; omega) _).setCell (p := ⟨w.heap.size + 1 + 1, 0, none⟩) (by dsimp only; omega) _).setCell (p := ⟨w.heap.size + 1 + 1, 1, none⟩) (by dsimp only; omega) _).setCell (p := ⟨w.heap.size + 1 + 1, 2, none⟩) (by dsimp only; omega) _)⟩
  have hbz : b.length = 0 := by omega
  by_cases hsp : 0 < s.length
  · obtain ⟨ht0, ht1⟩ := tries_first hg hsp
    obtain ⟨⟨x1, x2, x3⟩, hx⟩ : ∃ x, el s 0 = x := ⟨_, rfl⟩
    obtain ⟨x4, hx4⟩ : ∃ x, tryV x3 = x := ⟨_, rfl⟩
    obtain ⟨Rs, hRs⟩ : ∃ l, s.drop 1 = l := ⟨_, rfl⟩
    obtain ⟨Rr, hRr⟩ : ∃ l, r ++ [(x1, x2, x4)] = l := ⟨_, rfl⟩
    rw [hx] at ht0 ht1
    dsimp only at ht0 ht1
    have HR : Hid (takeR kap cl b s r = (kap, cl, b, Rs, Rr, 0, x1, x2, x4, 0)) := by rw [Hid, takeR, if_pos hg, if_neg hbp, if_pos hsp, hx]; dsimp only; rw [hx4, hRs, hRr]
    have HXX := hid hx
    have HX4 := hid hx4
    have HRs := hid hRs
    have HRr := hid hRr
    have HB1 := hid hbz
    clear hg hx hRs hRr hx4 hbp hbz
    have hm0 : ∀ W : World, (method 206 63 (.agg #[.int .i64 x1, .int .i64 x2, .int .i64 x4]) "loop.example/g00145/impl.takenFrom").run Try.prog W = .ok (69, .agg #[.int .i64 x1, .int .i64 x2, .int .i64 x4]) W := fun _ => by kernel_rfl
    have hn0 : ∀ W : World, (nilAhead 206 63 (.agg #[.int .i64 x1, .int .i64 x2, .int .i64 x4]) "loop.example/g00145/impl.takenFrom").run Try.prog W = .ok (some false) W := fun _ => by kernel_rfl
    obtain ⟨w0, hw0⟩ : ∃ w0, w0 = (((w.alloc (.cells #[.int .i64 kap, .bool cl, .slice bo b.length bc, .slice so s.length sc, .slice ro r.length rc] 26)).alloc (.cells #[.int .i64 0, .bool false, .slice none 0 0, .slice none 0 0, .slice none 0 0] 26)).alloc (.cells #[.int .i64 0, .int .i64 0, .int .i64 0] 29)) := ⟨_, rfl⟩
    have hB0 : Below w.heap.size w w0 := by rw [hw0]; exact Below.allocS (Below.allocS (Below.allocS (Below.refl _ _) _) _) _
    have XA0 : Hid (Bx w0 (w.heap.size) [.int .i64 kap, .bool cl, .slice bo b.length bc, .slice so s.length sc, .slice ro r.length rc]) := by rw [hw0]; exact Bx.alloc (Bx.alloc (Bx.new [.int .i64 kap, .bool cl, .slice bo b.length bc, .slice so s.length sc, .slice ro r.length rc] _ rfl) _) _
    have XR0 : Hid (Bx w0 (w.heap.size + 1) [.int .i64 0, .bool false, .slice none 0 0, .slice none 0 0, .slice none 0 0]) := by rw [hw0]; exact Bx.alloc (Bx.new [.int .i64 0, .bool false, .slice none 0 0, .slice none 0 0, .slice none 0 0] _ (by simp)) _
    have XT0 : Hid (Bx w0 (w.heap.size + 1 + 1) [.int .i64 0, .int .i64 0, .int .i64 0]) := by rw [hw0]; exact Bx.new [.int .i64 0, .int .i64 0, .int .i64 0] _ (by simp)
    have H0 : Hid (w0 = (((w.alloc (.cells #[.int .i64 kap, .bool cl, .slice bo b.length bc, .slice so s.length sc, .slice ro r.length rc] 26)).alloc (.cells #[.int .i64 0, .bool false, .slice none 0 0, .slice none 0 0, .slice none 0 0] 26)).alloc (.cells #[.int .i64 0, .int .i64 0, .int .i64 0] 29))) := hw0
    have hs0 : w.heap.size + 1 + 1 + 1 ≤ w0.heap.size := by rw [hw0]; simp
    clear hw0
    go_enter Try.func5, Try.ntmps5
    go_wp2_with fail
    rw [← H0.out]
    refine (implGood_is kap cl bo bc b so sc s ro rc r w0 true hlb hls hlr (hz.later hB0) HG.out).mono ?_
    rintro e w1 ⟨rfl, hb1⟩
    have hB1 := hB0.trans (hb1.mono hB0.size)
    have hs1 : w.heap.size + 1 + 1 + 1 ≤ w1.heap.size := Nat.le_trans hs0 hb1.size
    have hz1 : w0.heap.size ≤ w1.heap.size := hb1.size
    have XA1 := hid (XA0.out.later hb1)
    have XR1 := hid (XR0.out.later hb1)
    have XT1 := hid (XT0.out.later hb1)
    clear XA0 XR0 XT0
    clear hb1
    have a0 := XA1.out.c 0 rfl
    have af0 := XA1.out.f 0 rfl
    have a1 := XA1.out.c 1 rfl
    have af1 := XA1.out.f 1 rfl
    have a2 := XA1.out.c 2 rfl
    have af2 := XA1.out.f 2 rfl
    have a3 := XA1.out.c 3 rfl
    have af3 := XA1.out.f 3 rfl
    have a4 := XA1.out.c 4 rfl
    have af4 := XA1.out.f 4 rfl
    have az := XA1.out.size
    have r0 := XR1.out.c 0 rfl
    have rf0 := XR1.out.f 0 rfl
    have r1 := XR1.out.c 1 rfl
    have rf1 := XR1.out.f 1 rfl
    have r2 := XR1.out.c 2 rfl
    have rf2 := XR1.out.f 2 rfl
    have r3 := XR1.out.c 3 rfl
    have rf3 := XR1.out.f 3 rfl
    have r4 := XR1.out.c 4 rfl
    have rf4 := XR1.out.f 4 rfl
    have rz := XR1.out.size
    have t0 := XT1.out.c 0 rfl
    have tf0 := XT1.out.f 0 rfl
    have t1 := XT1.out.c 1 rfl
    have tf1 := XT1.out.f 1 rfl
    have t2 := XT1.out.c 2 rfl
    have tf2 := XT1.out.f 2 rfl
    have tz := XT1.out.size
    go_wp2_with fail
    clear a0 af0 a1 af1 a2 af2 a3 af3 a4 af4 az r0 rf0 r1 rf1 r2 rf2 r3 rf3 r4 rf4 rz t0 tf0 t1 tf1 t2 tf2 tz
    refine (nextL_is kap cl bo bc b so sc s ro rc r w1 hlb hls hlr (hz.later hB1) x1 x2 x3 x4 HB1.out hsp HXX.out ht0 ht1 HX4.out).mono ?_
    rintro e w2 ⟨rfl, hb2⟩
    have hB2 := hB1.trans (hb2.mono hB1.size)
    have hs2 : w.heap.size + 1 + 1 + 1 ≤ w2.heap.size := Nat.le_trans hs1 hb2.size
    have hz2 : w1.heap.size ≤ w2.heap.size := hb2.size
    have XA2 := hid (XA1.out.later hb2)
    have XR2 := hid (XR1.out.later hb2)
    have XT2 := hid (XT1.out.later hb2)
    clear XA1 XR1 XT1
    clear hb2
    have a0 := XA2.out.c 0 rfl
    have af0 := XA2.out.f 0 rfl
    have a1 := XA2.out.c 1 rfl
    have af1 := XA2.out.f 1 rfl
    have a2 := XA2.out.c 2 rfl
    have af2 := XA2.out.f 2 rfl
    have a3 := XA2.out.c 3 rfl
    have af3 := XA2.out.f 3 rfl
    have a4 := XA2.out.c 4 rfl
    have af4 := XA2.out.f 4 rfl
    have az := XA2.out.size
    have r0 := XR2.out.c 0 rfl
    have rf0 := XR2.out.f 0 rfl
    have r1 := XR2.out.c 1 rfl
    have rf1 := XR2.out.f 1 rfl
    have r2 := XR2.out.c 2 rfl
    have rf2 := XR2.out.f 2 rfl
    have r3 := XR2.out.c 3 rfl
    have rf3 := XR2.out.f 3 rfl
    have r4 := XR2.out.c 4 rfl
    have rf4 := XR2.out.f 4 rfl
    have rz := XR2.out.size
    have t0 := XT2.out.c 0 rfl
    have tf0 := XT2.out.f 0 rfl
    have t1 := XT2.out.c 1 rfl
    have tf1 := XT2.out.f 1 rfl
    have t2 := XT2.out.c 2 rfl
    have tf2 := XT2.out.f 2 rfl
    have tz := XT2.out.size
    go_wp2_with fail
    clear a0 af0 a1 af1 a2 af2 a3 af3 a4 af4 az r0 rf0 r1 rf1 r2 rf2 r3 rf3 r4 rf4 rz t0 tf0 t1 tf1 t2 tf2 tz
    refine (wordL_is x1 x2 x4 w2).mono ?_
    rintro e w3 ⟨rfl, hb3⟩
    have hB3 := hB2.trans (hb3.mono hB2.size)
    have hs3 : w.heap.size + 1 + 1 + 1 ≤ w3.heap.size := Nat.le_trans hs2 hb3.size
    have hz3 : w2.heap.size ≤ w3.heap.size := hb3.size
    have XA3 := hid (XA2.out.later hb3)
    have XR3 := hid (XR2.out.later hb3)
    have XT3 := hid (XT2.out.later hb3)
    clear XA2 XR2 XT2
    clear hb3
    have a0 := XA3.out.c 0 rfl
    have af0 := XA3.out.f 0 rfl
    have a1 := XA3.out.c 1 rfl
    have af1 := XA3.out.f 1 rfl
    have a2 := XA3.out.c 2 rfl
    have af2 := XA3.out.f 2 rfl
    have a3 := XA3.out.c 3 rfl
    have af3 := XA3.out.f 3 rfl
    have a4 := XA3.out.c 4 rfl
    have af4 := XA3.out.f 4 rfl
    have az := XA3.out.size
    have r0 := XR3.out.c 0 rfl
    have rf0 := XR3.out.f 0 rfl
    have r1 := XR3.out.c 1 rfl
    have rf1 := XR3.out.f 1 rfl
    have r2 := XR3.out.c 2 rfl
    have rf2 := XR3.out.f 2 rfl
    have r3 := XR3.out.c 3 rfl
    have rf3 := XR3.out.f 3 rfl
    have r4 := XR3.out.c 4 rfl
    have rf4 := XR3.out.f 4 rfl
    have rz := XR3.out.size
    have t0 := XT3.out.c 0 rfl
    have tf0 := XT3.out.f 0 rfl
    have t1 := XT3.out.c 1 rfl
    have tf1 := XT3.out.f 1 rfl
    have t2 := XT3.out.c 2 rfl
    have tf2 := XT3.out.f 2 rfl
    have tz := XT3.out.size
    obtain ⟨w4, hV⟩ : ∃ V, V = w3.alloc (.cells #[.int .i64 x1, .int .i64 x2, .int .i64 x4] 29) := ⟨_, rfl⟩
    have hz4 : w3.heap.size ≤ w4.heap.size := by rw [hV]; simp
    have hs4 : w.heap.size + 1 + 1 + 1 ≤ w4.heap.size := Nat.le_trans hs3 hz4
    have hB4 : Below w.heap.size w w4 := by rw [hV]; exact Below.allocS hB3 _
    have XA4 := hid (XA3.out.alloc (.cells #[.int .i64 x1, .int .i64 x2, .int .i64 x4] 29))
    rw [← hV] at XA4
    have XR4 := hid (XR3.out.alloc (.cells #[.int .i64 x1, .int .i64 x2, .int .i64 x4] 29))
    rw [← hV] at XR4
    have XT4 := hid (XT3.out.alloc (.cells #[.int .i64 x1, .int .i64 x2, .int .i64 x4] 29))
    rw [← hV] at XT4
    have H4 : Hid (w4 = w3.alloc (.cells #[.int .i64 x1, .int .i64 x2, .int .i64 x4] 29)) := hV
    clear hV XA3 XR3 XT3
    have XY4 : Hid (Bx w4 w3.heap.size [.int .i64 x1, .int .i64 x2, .int .i64 x4]) := by rw [H4.out]; exact Bx.new [.int .i64 x1, .int .i64 x2, .int .i64 x4] _ rfl
    have hy4 : w3.heap.size < w4.heap.size := XY4.out.size
    go_upto_region 7 with fail
    clear a0 af0 a1 af1 a2 af2 a3 af3 a4 af4 az r0 rf0 r1 rf1 r2 rf2 r3 rf3 r4 rf4 rz t0 tf0 t1 tf1 t2 tf2 tz
    rw [← H4.out]
    have a0 := XA4.out.c 0 rfl
    have af0 := XA4.out.f 0 rfl
    have a1 := XA4.out.c 1 rfl
    have af1 := XA4.out.f 1 rfl
    have a2 := XA4.out.c 2 rfl
    have af2 := XA4.out.f 2 rfl
    have a3 := XA4.out.c 3 rfl
    have af3 := XA4.out.f 3 rfl
    have a4 := XA4.out.c 4 rfl
    have af4 := XA4.out.f 4 rfl
    have az := XA4.out.size
    have r0 := XR4.out.c 0 rfl
    have rf0 := XR4.out.f 0 rfl
    have r1 := XR4.out.c 1 rfl
    have rf1 := XR4.out.f 1 rfl
    have r2 := XR4.out.c 2 rfl
    have rf2 := XR4.out.f 2 rfl
    have r3 := XR4.out.c 3 rfl
    have rf3 := XR4.out.f 3 rfl
    have r4 := XR4.out.c 4 rfl
    have rf4 := XR4.out.f 4 rfl
    have rz := XR4.out.size
    have t0 := XT4.out.c 0 rfl
    have tf0 := XT4.out.f 0 rfl
    have t1 := XT4.out.c 1 rfl
    have tf1 := XT4.out.f 1 rfl
    have t2 := XT4.out.c 2 rfl
    have tf2 := XT4.out.f 2 rfl
    have tz := XT4.out.size
    have y0 := XY4.out.c 0 rfl
    have yf0 := XY4.out.f 0 rfl
    have y1 := XY4.out.c 1 rfl
    have yf1 := XY4.out.f 1 rfl
    have y2 := XY4.out.c 2 rfl
    have yf2 := XY4.out.f 2 rfl
    have yz := XY4.out.size
    go_wp2
    have PD : w4.drew.cell? ⟨w.heap.size, 0, none⟩ = some (.int .i64 kap) ∧ w4.drew.cell? ⟨w.heap.size, 1, none⟩ = some (.bool cl) ∧ w4.drew.cell? ⟨w.heap.size, 2, none⟩ = some (.slice bo b.length bc) ∧ w4.drew.cell? ⟨w.heap.size, 3, none⟩ = some (.slice so s.length sc) ∧ w4.drew.cell? ⟨w.heap.size, 4, none⟩ = some (.slice ro r.length rc) ∧ w4.drew.cell? ⟨w3.heap.size, 0, none⟩ = some (.int .i64 x1) ∧ w4.drew.cell? ⟨w3.heap.size, 1, none⟩ = some (.int .i64 x2) ∧ w4.drew.cell? ⟨w3.heap.size, 2, none⟩ = some (.int .i64 x4) := ⟨a0, a1, a2, a3, a4, y0, y1, y2⟩
    go_region_held3 (fun Y => Y.cell? ⟨w.heap.size, 0, none⟩ = some (.int .i64 kap) ∧ Y.cell? ⟨w.heap.size, 1, none⟩ = some (.bool cl) ∧ Y.cell? ⟨w.heap.size, 2, none⟩ = some (.slice bo b.length bc) ∧ Y.cell? ⟨w.heap.size, 3, none⟩ = some (.slice so s.length sc) ∧ Y.cell? ⟨w.heap.size, 4, none⟩ = some (.slice ro r.length rc) ∧ Y.cell? ⟨w3.heap.size, 0, none⟩ = some (.int .i64 x1) ∧ Y.cell? ⟨w3.heap.size, 1, none⟩ = some (.int .i64 x2) ∧ Y.cell? ⟨w3.heap.size, 2, none⟩ = some (.int .i64 x4))
      (first | ((refine ⟨?_, ?_, ?_, ?_, ?_, ?_, ?_, ?_⟩ <;> (rw [World.cell?_setCell_other _ _ _ _ (by simp <;> omega), World.cell?_setCell_other _ _ _ _ (by simp <;> omega), World.cell?_setCell_other _ _ _ _ (by simp <;> omega), World.cell?_setCell_other _ _ _ _ (by simp <;> omega), World.cell?_setCell_other _ _ _ _ (by simp <;> omega)])); with_reducible exact P5.1; with_reducible exact P5.2.1; with_reducible exact P5.2.2.1; with_reducible exact P5.2.2.2.1; with_reducible exact P5.2.2.2.2.1; with_reducible exact P5.2.2.2.2.2.1; with_reducible exact P5.2.2.2.2.2.2.1; with_reducible exact P5.2.2.2.2.2.2.2) | ((refine ⟨?_, ?_, ?_, ?_, ?_, ?_, ?_, ?_⟩ <;> (rw [World.cell?_setCell_other _ _ _ _ (by simp <;> omega), World.cell?_setCell_other _ _ _ _ (by simp <;> omega), World.cell?_setCell_other _ _ _ _ (by simp <;> omega), World.cell?_setCell_other _ _ _ _ (by simp <;> omega), World.cell?_setCell_other _ _ _ _ (by simp <;> omega), World.cell?_setCell_other _ _ _ _ (by simp <;> omega), World.cell?_setCell_other _ _ _ _ (by simp <;> omega), World.cell?_setCell_other _ _ _ _ (by simp <;> omega)])); with_reducible exact P5.1; with_reducible exact P5.2.1; with_reducible exact P5.2.2.1; with_reducible exact P5.2.2.2.1; with_reducible exact P5.2.2.2.2.1; with_reducible exact P5.2.2.2.2.2.1; with_reducible exact P5.2.2.2.2.2.2.1; with_reducible exact P5.2.2.2.2.2.2.2) | (with_reducible exact ⟨a0, a1, a2, a3, a4, y0, y1, y2⟩) | (with_reducible exact PD) | (with_reducible exact P5))
      (first
        | (go_at_call 69; refine (takenL_as x1 x2 x4 kap cl bo bc b so sc s ro rc r _ hlb hls hlr (by exact hz.later hB4.drew) hsp Rs Rr HRs.out HRr.out).mono ?_; rintro e w5 ⟨⟨bo1, bc1, so1, sc1, ro1, rc1, rfl, hF⟩, hy5⟩; have hb5 : Below w4.heap.size w4 w5 := (Below.refl w4.heap.size w4).drew.trans hy5; have hB5 : Below w.heap.size w w5 := hB4.trans (hb5.mono hB4.size); have hs5 : w.heap.size + 1 + 1 + 1 ≤ w5.heap.size := Nat.le_trans hs4 hb5.size; have hz5 : w4.heap.size ≤ w5.heap.size := hb5.size; have XA5 := hid (XA4.out.later hb5); have XR5 := hid (XR4.out.later hb5); have XT5 := hid (XT4.out.later hb5); have XY5 := hid (XY4.out.later hb5); simp only [World.size_drew] at hF; have F5 := hid (hF); have P5 := (⟨XA5.out.c 0 rfl, XA5.out.c 1 rfl, XA5.out.c 2 rfl, XA5.out.c 3 rfl, XA5.out.c 4 rfl, XY5.out.c 0 rfl, XY5.out.c 1 rfl, XY5.out.c 2 rfl⟩ : w5.cell? ⟨w.heap.size, 0, none⟩ = some (.int .i64 kap) ∧ w5.cell? ⟨w.heap.size, 1, none⟩ = some (.bool cl) ∧ w5.cell? ⟨w.heap.size, 2, none⟩ = some (.slice bo b.length bc) ∧ w5.cell? ⟨w.heap.size, 3, none⟩ = some (.slice so s.length sc) ∧ w5.cell? ⟨w.heap.size, 4, none⟩ = some (.slice ro r.length rc) ∧ w5.cell? ⟨w3.heap.size, 0, none⟩ = some (.int .i64 x1) ∧ w5.cell? ⟨w3.heap.size, 1, none⟩ = some (.int .i64 x2) ∧ w5.cell? ⟨w3.heap.size, 2, none⟩ = some (.int .i64 x4)); have ag0 := XA5.out.c 0 rfl; have ah0 := XA5.out.f 0 rfl; have ag1 := XA5.out.c 1 rfl; have ah1 := XA5.out.f 1 rfl; have ag2 := XA5.out.c 2 rfl; have ah2 := XA5.out.f 2 rfl; have ag3 := XA5.out.c 3 rfl; have ah3 := XA5.out.f 3 rfl; have ag4 := XA5.out.c 4 rfl; have ah4 := XA5.out.f 4 rfl; have rg0 := XR5.out.c 0 rfl; have rh0 := XR5.out.f 0 rfl; have rg1 := XR5.out.c 1 rfl; have rh1 := XR5.out.f 1 rfl; have rg2 := XR5.out.c 2 rfl; have rh2 := XR5.out.f 2 rfl; have rg3 := XR5.out.c 3 rfl; have rh3 := XR5.out.f 3 rfl; have rg4 := XR5.out.c 4 rfl; have rh4 := XR5.out.f 4 rfl; have tg0 := XT5.out.c 0 rfl; have th0 := XT5.out.f 0 rfl; have tg1 := XT5.out.c 1 rfl; have th1 := XT5.out.f 1 rfl; have tg2 := XT5.out.c 2 rfl; have th2 := XT5.out.f 2 rfl; have yg0 := XY5.out.c 0 rfl; have yh0 := XY5.out.f 0 rfl; have yg1 := XY5.out.c 1 rfl; have yh1 := XY5.out.f 1 rfl; have yg2 := XY5.out.c 2 rfl; have yh2 := XY5.out.f 2 rfl; clear hy5 hb5 hF))
    all_goals
      go_wp2
      refine bodyPost_ret (v := .tuple #[.agg #[.int .i64 kap, .bool cl, .slice bo1 b.length bc1, .slice so1 Rs.length sc1, .slice ro1 Rr.length rc1], .int .i64 0, .agg #[.int .i64 x1, .int .i64 x2, .int .i64 x4], .int .i64 0]) (by simp [results, Try.results5, go_sem, rg0, rg1, rg2, rg3, rg4, tg0, tg1, tg2]) rfl ?_
      rw [HR.out]
      exact ⟨⟨_, _, _, _, _, _, rfl, (FrBox.wide ((((((((F5.out.setOff (a := ⟨w.heap.size + 1, 0, none⟩) (by dsimp only; omega) _).setOff (a := ⟨w.heap.size + 1, 1, none⟩) (by dsimp only; omega) _).setOff (a := ⟨w.heap.size + 1, 2, none⟩) (by dsimp only; omega) _).setOff (a := ⟨w.heap.size + 1, 3, none⟩) (by dsimp only; omega) _).setOff (a := ⟨w.heap.size + 1, 4, none⟩) (by dsimp only; omega) _).setOff (a := ⟨w.heap.size + 1 + 1, 0, none⟩) (by dsimp only; omega) _).setOff (a := ⟨w.heap.size + 1 + 1, 1, none⟩) (by dsimp only; omega) _).setOff (a := ⟨w.heap.size + 1 + 1, 2, none⟩) (by dsimp only; omega) _) (by omega) (Nat.le_refl _)).low (Nat.le_refl _)⟩, ((((((((hB5.setCell (p := ⟨w.heap.size + 1, 0, none⟩) (by dsimp only; omega) _).setCell (p := ⟨w.heap.size + 1, 1, none⟩) (by dsimp only; omega) _).setCell (p := ⟨w.heap.size + 1, 2, none⟩) (by dsimp only; omega) _).setCell (p := ⟨w.heap.size + 1, 3, none⟩) (by dsimp only; omega) _).setCell (p := ⟨w.heap.size + 1, 4, none⟩) (by dsimp only; omega) _).setCell (p := ⟨w.heap.size + 1 + 1, 0, none⟩) (by dsimp only; omega) _).setCell (p := ⟨w.heap.size + 1 + 1, 1, none⟩) (by dsimp only; omega) _).setCell (p := ⟨w.heap.size + 1 + 1, 2, none⟩) (by dsimp only; omega) _)⟩
  have hsz : s.length = 0 := by omega
  have HR : Hid (takeR kap cl b s r = (kap, cl, b, s, r, 0, 0, 0, 0, 4)) := by rw [Hid, takeR, if_pos hg, if_neg hbp, if_neg hsp]
  have HB1 := hid hbz
  have HS1 := hid hsz
  clear hg hbp hsp hbz hsz
  obtain ⟨w0, hw0⟩ : ∃ w0, w0 = (((w.alloc (.cells #[.int .i64 kap, .bool cl, .slice bo b.length bc, .slice so s.length sc, .slice ro r.length rc] 26)).alloc (.cells #[.int .i64 0, .bool false, .slice none 0 0, .slice none 0 0, .slice none 0 0] 26)).alloc (.cells #[.int .i64 0, .int .i64 0, .int .i64 0] 29)) := ⟨_, rfl⟩
  have hB0 : Below w.heap.size w w0 := by rw [hw0]; exact Below.allocS (Below.allocS (Below.allocS (Below.refl _ _) _) _) _
  have XA0 : Hid (Bx w0 (w.heap.size) [.int .i64 kap, .bool cl, .slice bo b.length bc, .slice so s.length sc, .slice ro r.length rc]) := by rw [hw0]; exact Bx.alloc (Bx.alloc (Bx.new [.int .i64 kap, .bool cl, .slice bo b.length bc, .slice so s.length sc, .slice ro r.length rc] _ rfl) _) _
  have XR0 : Hid (Bx w0 (w.heap.size + 1) [.int .i64 0, .bool false, .slice none 0 0, .slice none 0 0, .slice none 0 0]) := by rw [hw0]; exact Bx.alloc (Bx.new [.int .i64 0, .bool false, .slice none 0 0, .slice none 0 0, .slice none 0 0] _ (by simp)) _
  have XT0 : Hid (Bx w0 (w.heap.size + 1 + 1) [.int .i64 0, .int .i64 0, .int .i64 0]) := by rw [hw0]; exact Bx.new [.int .i64 0, .int .i64 0, .int .i64 0] _ (by simp)
  have H0 : Hid (w0 = (((w.alloc (.cells #[.int .i64 kap, .bool cl, .slice bo b.length bc, .slice so s.length sc, .slice ro r.length rc] 26)).alloc (.cells #[.int .i64 0, .bool false, .slice none 0 0, .slice none 0 0, .slice none 0 0] 26)).alloc (.cells #[.int .i64 0, .int .i64 0, .int .i64 0] 29))) := hw0
  have hs0 : w.heap.size + 1 + 1 + 1 ≤ w0.heap.size := by rw [hw0]; simp
  clear hw0
  go_enter Try.func5, Try.ntmps5
  go_wp2_with fail
  rw [← H0.out]
  refine (implGood_is kap cl bo bc b so sc s ro rc r w0 true hlb hls hlr (hz.later hB0) HG.out).mono ?_
  rintro e w1 ⟨rfl, hb1⟩
  have hB1 := hB0.trans (hb1.mono hB0.size)
  have hs1 : w.heap.size + 1 + 1 + 1 ≤ w1.heap.size := Nat.le_trans hs0 hb1.size
  have hz1 : w0.heap.size ≤ w1.heap.size := hb1.size
  have XA1 := hid (XA0.out.later hb1)
  have XR1 := hid (XR0.out.later hb1)
  have XT1 := hid (XT0.out.later hb1)
  clear XA0 XR0 XT0
  clear hb1
  have a0 := XA1.out.c 0 rfl
  have af0 := XA1.out.f 0 rfl
  have a1 := XA1.out.c 1 rfl
  have af1 := XA1.out.f 1 rfl
  have a2 := XA1.out.c 2 rfl
  have af2 := XA1.out.f 2 rfl
  have a3 := XA1.out.c 3 rfl
  have af3 := XA1.out.f 3 rfl
  have a4 := XA1.out.c 4 rfl
  have af4 := XA1.out.f 4 rfl
  have az := XA1.out.size
  have r0 := XR1.out.c 0 rfl
  have rf0 := XR1.out.f 0 rfl
  have r1 := XR1.out.c 1 rfl
  have rf1 := XR1.out.f 1 rfl
  have r2 := XR1.out.c 2 rfl
  have rf2 := XR1.out.f 2 rfl
  have r3 := XR1.out.c 3 rfl
  have rf3 := XR1.out.f 3 rfl
  have r4 := XR1.out.c 4 rfl
  have rf4 := XR1.out.f 4 rfl
  have rz := XR1.out.size
  have t0 := XT1.out.c 0 rfl
  have tf0 := XT1.out.f 0 rfl
  have t1 := XT1.out.c 1 rfl
  have tf1 := XT1.out.f 1 rfl
  have t2 := XT1.out.c 2 rfl
  have tf2 := XT1.out.f 2 rfl
  have tz := XT1.out.size
  go_wp2_with fail
  clear a0 af0 a1 af1 a2 af2 a3 af3 a4 af4 az r0 rf0 r1 rf1 r2 rf2 r3 rf3 r4 rf4 rz t0 tf0 t1 tf1 t2 tf2 tz
  refine (nextN_is kap cl bo bc b so sc s ro rc r w1 hlb hls hlr (hz.later hB1) HB1.out HS1.out).mono ?_
  rintro e w2 ⟨rfl, hb2⟩
  have hB2 := hB1.trans (hb2.mono hB1.size)
  have hs2 : w.heap.size + 1 + 1 + 1 ≤ w2.heap.size := Nat.le_trans hs1 hb2.size
  have hz2 : w1.heap.size ≤ w2.heap.size := hb2.size
  have XA2 := hid (XA1.out.later hb2)
  have XR2 := hid (XR1.out.later hb2)
  have XT2 := hid (XT1.out.later hb2)
  clear XA1 XR1 XT1
  clear hb2
  have a0 := XA2.out.c 0 rfl
  have af0 := XA2.out.f 0 rfl
  have a1 := XA2.out.c 1 rfl
  have af1 := XA2.out.f 1 rfl
  have a2 := XA2.out.c 2 rfl
  have af2 := XA2.out.f 2 rfl
  have a3 := XA2.out.c 3 rfl
  have af3 := XA2.out.f 3 rfl
  have a4 := XA2.out.c 4 rfl
  have af4 := XA2.out.f 4 rfl
  have az := XA2.out.size
  have r0 := XR2.out.c 0 rfl
  have rf0 := XR2.out.f 0 rfl
  have r1 := XR2.out.c 1 rfl
  have rf1 := XR2.out.f 1 rfl
  have r2 := XR2.out.c 2 rfl
  have rf2 := XR2.out.f 2 rfl
  have r3 := XR2.out.c 3 rfl
  have rf3 := XR2.out.f 3 rfl
  have r4 := XR2.out.c 4 rfl
  have rf4 := XR2.out.f 4 rfl
  have rz := XR2.out.size
  have t0 := XT2.out.c 0 rfl
  have tf0 := XT2.out.f 0 rfl
  have t1 := XT2.out.c 1 rfl
  have tf1 := XT2.out.f 1 rfl
  have t2 := XT2.out.c 2 rfl
  have tf2 := XT2.out.f 2 rfl
  have tz := XT2.out.size
  go_wp2_with fail
  clear a0 af0 a1 af1 a2 af2 a3 af3 a4 af4 az r0 rf0 r1 rf1 r2 rf2 r3 rf3 r4 rf4 rz t0 tf0 t1 tf1 t2 tf2 tz
  refine (copyBox_any kap cl bo bc b so sc s ro rc r w2 hlb hls hlr (hz.later hB2)).mono ?_
  rintro e w3 ⟨⟨bo1, bc1, so1, sc1, ro1, rc1, rfl, hF⟩, hb3⟩
  have hB3 := hB2.trans (hb3.mono hB2.size)
  have hs3 : w.heap.size + 1 + 1 + 1 ≤ w3.heap.size := Nat.le_trans hs2 hb3.size
  have hz3 : w2.heap.size ≤ w3.heap.size := hb3.size
  have XA3 := hid (XA2.out.later hb3)
  have XR3 := hid (XR2.out.later hb3)
  have XT3 := hid (XT2.out.later hb3)
  clear XA2 XR2 XT2
  have F3 := hid (hF)
  clear hb3 hF
  have a0 := XA3.out.c 0 rfl
  have af0 := XA3.out.f 0 rfl
  have a1 := XA3.out.c 1 rfl
  have af1 := XA3.out.f 1 rfl
  have a2 := XA3.out.c 2 rfl
  have af2 := XA3.out.f 2 rfl
  have a3 := XA3.out.c 3 rfl
  have af3 := XA3.out.f 3 rfl
  have a4 := XA3.out.c 4 rfl
  have af4 := XA3.out.f 4 rfl
  have az := XA3.out.size
  have r0 := XR3.out.c 0 rfl
  have rf0 := XR3.out.f 0 rfl
  have r1 := XR3.out.c 1 rfl
  have rf1 := XR3.out.f 1 rfl
  have r2 := XR3.out.c 2 rfl
  have rf2 := XR3.out.f 2 rfl
  have r3 := XR3.out.c 3 rfl
  have rf3 := XR3.out.f 3 rfl
  have r4 := XR3.out.c 4 rfl
  have rf4 := XR3.out.f 4 rfl
  have rz := XR3.out.size
  have t0 := XT3.out.c 0 rfl
  have tf0 := XT3.out.f 0 rfl
  have t1 := XT3.out.c 1 rfl
  have tf1 := XT3.out.f 1 rfl
  have t2 := XT3.out.c 2 rfl
  have tf2 := XT3.out.f 2 rfl
  have tz := XT3.out.size
  go_wp2
  refine bodyPost_ret (v := .tuple #[.agg #[.int .i64 kap, .bool cl, .slice bo1 b.length bc1, .slice so1 s.length sc1, .slice ro1 r.length rc1], .int .i64 0, .agg #[.int .i64 0, .int .i64 0, .int .i64 0], .int .i64 4]) (by simp [results, Try.results5, go_sem, r0, r1, r2, r3, r4, t0, t1, t2]) rfl ?_
  rw [HR.out]
  exact ⟨⟨_, _, _, _, _, _, rfl, (FrBox.wide ((((((((F3.out.setOff (a := ⟨w.heap.size + 1, 0, none⟩) (by dsimp only; omega) _).setOff (a := ⟨w.heap.size + 1, 1, none⟩) (by dsimp only; omega) _).setOff (a := ⟨w.heap.size + 1, 2, none⟩) (by dsimp only; omega) _).setOff (a := ⟨w.heap.size + 1, 3, none⟩) (by dsimp only; omega) _).setOff (a := ⟨w.heap.size + 1, 4, none⟩) (by dsimp only; omega) _).setOff (a := ⟨w.heap.size + 1 + 1, 0, none⟩) (by dsimp only; omega) _).setOff (a := ⟨w.heap.size + 1 + 1, 1, none⟩) (by dsimp only; omega) _).setOff (a := ⟨w.heap.size + 1 + 1, 2, none⟩) (by dsimp only; omega) _) (by omega) (Nat.le_refl _)).low (Nat.le_refl _)⟩, ((((((((hB3.setCell (p := ⟨w.heap.size + 1, 0, none⟩) (by dsimp only; omega) _).setCell (p := ⟨w.heap.size + 1, 1, none⟩) (by dsimp only; omega) _).setCell (p := ⟨w.heap.size + 1, 2, none⟩) (by dsimp only; omega) _).setCell (p := ⟨w.heap.size + 1, 3, none⟩) (by dsimp only; omega) _).setCell (p := ⟨w.heap.size + 1, 4, none⟩) (by dsimp only; omega) _).setCell (p := ⟨w.heap.size + 1 + 1, 0, none⟩) (by dsimp only; omega) _).setCell (p := ⟨w.heap.size + 1 + 1, 1, none⟩) (by dsimp only; omega) _).setCell (p := ⟨w.heap.size + 1 + 1, 2, none⟩) (by dsimp only; omega) _)⟩
end Go.Proofs.Ytnnlbnbamhkcaaa
