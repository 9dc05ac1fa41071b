
/- CloseIn: the specification. No conditions but those written. -/
import Derived.Test.YtdjdbcfcccbhpaaYo
import Derived.Test.YtdjdbcfcccbhpaaYh
namespace Go.Proofs.Ytdjdbcfcccbhpaa
open Go.RowKit Go.Maps

/-- A hub and those told, in new memory, and a code, as an ending. -/
def AnsD (w : World) (R : List PChan × List (Int × Int × Int × Bool) × Int) (e : Ending) (w' : World) : Prop := (∃ o c us wo wc, e = .returned (.tuple #[.agg #[.slice o R.1.length c], .slice wo R.2.1.length wc, .int .i64 R.2.2]) ∧ us.map valChan = R.1 ∧ kK.Fresh w.heap.size w'.heap.size w' wo wc R.2.1 ∧ DFr dChan w.heap.size w'.heap.size w' o c us) ∧ Below w.heap.size w w'
set_option maxRecDepth 100000 in
set_option maxHeartbeats 16000000 in
theorem specCloseIn_any (ao : Option Addr) (cap : Nat) (ts : List LChan) (k : Int) (w : World) (hl : ts.length ≤ 1048576) (ht : totChan ts ≤ 1048576) (hz : DIn dChan w.heap.size w ao ts) :
    Calls Try.prog 5 #[.agg #[.slice ao ts.length cap], .int .i64 k] w fun e w' => AnsD w (closeR (ts.map valChan) k) e w' := by
  have HZ := hid hz
  have HTT := hid ht
  clear hz ht
  obtain ⟨w0, hV0⟩ : ∃ V0, V0 = (w.alloc (.cells #[.slice ao ts.length cap] 28)).alloc (.cells #[.slice none 0 0] 28) := ⟨_, rfl⟩
  have hB0 : Below w.heap.size w w0 := by rw [hV0]; exact below2 _ _ _
  have A0 : Hid (Bx w0 w.heap.size [.slice ao ts.length cap]) := by rw [hV0]; exact (Bx.new [.slice ao ts.length cap] _ rfl).alloc _
  have R0 : Hid (Bx w0 (w.heap.size + 1) [.slice none 0 0]) := by rw [hV0]; exact Bx.new [.slice none 0 0] _ (by simp)
  have hs0 : w.heap.size + 1 + 1 ≤ w0.heap.size := by rw [hV0]; simp
  have HV0 := hid hV0
  clear hV0
  rcases hg : goodHB (ts.map valChan) with _ | _
  · have HR := hid (closeR_bad (k := k) hg)
    have HG := hid hg
    clear hg
    go_enter Try.func5, Try.ntmps5
    go_wp2_with fail
    rw [← HV0.out]
    refine (specGoodH_is ao cap ts w0 false hl HTT.out (HZ.out.later dChan_ok hB0) HG.out).mono ?_
    rintro e w1 ⟨rfl, hb1⟩
    have hB1 := hB0.trans (hb1.mono hB0.size)
    have A1 := hid (A0.out.later hb1)
    have R1 := hid (R0.out.later hb1)
    have hs1 : w.heap.size + 1 + 1 ≤ w1.heap.size := Nat.le_trans hs0 hb1.size
    clear hb1 HV0 A0 R0 hB0 hs0
    have a0 := A1.out.c 0 rfl
    have af0 := A1.out.f 0 rfl
    have az := A1.out.size
    have r0 := R1.out.c 0 rfl
    have rf0 := R1.out.f 0 rfl
    have rz := R1.out.size
    go_wp2
    refine bodyPost_ret (v := .tuple #[.agg #[.slice none 0 0], .slice none 0 0, .int .i64 2]) (by simp [results, Try.results5, go_sem, r0]) rfl ?_
    rw [HR.out]
    exact ⟨⟨none, 0, [], none, 0, rfl, rfl, .inl rfl, DFr.nothing _ _ _⟩, hB1.setCell (p := ⟨w.heap.size + 1, 0, none⟩) (by dsimp only; omega) _⟩
  have HG := hid hg
  rcases hk : inB ts.length k with _ | _
  · have HR := hid (closeR_out (ps := ts.map valChan) (k := k) (by rw [List.length_map]; exact hk))
    have HK : Hid ((decide (0 ≤ k) && decide (k ≤ (ts.length : Int) - 1)) = false) := by
      rw [Hid, ← hk, inB]
      by_cases h1 : 0 ≤ k
      · by_cases h2 : k < (ts.length : Int)
        · simp [h1, h2]; omega
        · simp [h1, h2]; omega
      · simp [h1]
    clear hg hk
    go_enter Try.func5, Try.ntmps5
    go_wp2_with fail
    rw [← HV0.out]
    refine (specGoodH_is ao cap ts w0 true hl HTT.out (HZ.out.later dChan_ok hB0) HG.out).mono ?_
    rintro e w1 ⟨rfl, hb1⟩
    have hB1 := hB0.trans (hb1.mono hB0.size)
    have A1 := hid (A0.out.later hb1)
    have R1 := hid (R0.out.later hb1)
    have hs1 : w.heap.size + 1 + 1 ≤ w1.heap.size := Nat.le_trans hs0 hb1.size
    clear hb1 HV0 A0 R0 hB0 hs0
    have a0 := A1.out.c 0 rfl
    have af0 := A1.out.f 0 rfl
    have az := A1.out.size
    have r0 := R1.out.c 0 rfl
    have rf0 := R1.out.f 0 rfl
    have rz := R1.out.size
    go_wp2_with fail
    refine (l1In_is k 0 ((ts.length : Int) - 1) w1 false HK.out).mono ?_
    rintro e wx ⟨rfl, hwx⟩
    rw [hwx]; clear hwx wx
    go_wp2
    refine bodyPost_ret (v := .tuple #[.agg #[.slice none 0 0], .slice none 0 0, .int .i64 2]) (by simp [results, Try.results5, go_sem, r0]) rfl ?_
    rw [HR.out]
    exact ⟨⟨none, 0, [], none, 0, rfl, rfl, .inl rfl, DFr.nothing _ _ _⟩, hB1.setCell (p := ⟨w.heap.size + 1, 0, none⟩) (by dsimp only; omega) _⟩
  have hk2 : 0 ≤ k ∧ k < ts.length := by simpa [inB] using hk
  have HK : Hid ((decide (0 ≤ k) && decide (k ≤ (ts.length : Int) - 1)) = true) := by rw [Hid]; simp; omega
  obtain ⟨j, rfl⟩ : ∃ j : Nat, k = (j : Int) := ⟨k.toNat, by omega⟩
  have hj : j < ts.length := by omega
  have hgp := (goodHB_all hg).2.1
  have hjp : j < (ts.map valChan).length := by rw [List.length_map]; exact hj
  obtain ⟨⟨kap, cl, b, s, r⟩, hev⟩ : ∃ v, v = el (ts.map valChan) j := ⟨_, rfl⟩
  have hgc := hgp _ (el_mem hjp)
  rw [← hev] at hgc
  have hev2 : valChan (el ts j) = (kap, cl, b, s, r) := by rw [hev]; simp [el, hj]
  have hsz := totChan_el hj
  have hsz3 : b.length + s.length + r.length ≤ 1048576 := by
    have h1 := HTT.out
    have h2 : sizeChan (el ts j) = b.length + s.length + r.length := by
      have e1 := congrArg (fun c : PChan => c.2.2.1.length + c.2.2.2.1.length + c.2.2.2.2.length) hev2
      simpa [valChan, sizeChan] using e1
    omega
  have HGC : Hid (goodP (kap, cl, b, s, r) = true) := hgc
  have HEV : Hid (el (ts.map valChan) j = (kap, cl, b, s, r)) := hev.symm
  have hkl : (j : Int) < (ts.length : Int) := by omega
  have hR0 : closeR (ts.map valChan) (j : Int) = if (el (ts.map valChan) j).2.1 = true then (ts.map valChan, [], 3) else ((shutP (ts.map valChan) j).map (keepP (tellW (fun _ => 1) (wokeP (ts.map valChan) j)).2), (tellW (fun _ => 1) (wokeP (ts.map valChan) j)).1, 0) := by
    rw [closeR, if_pos ⟨hg, by omega, by rw [List.length_map]; omega⟩]; simp
  rw [HEV.out] at hR0
  dsimp only at hR0
  have hwp : wokeP (ts.map valChan) j = wokeL (r ++ s) := by rw [wokeP, HEV.out]
  have hshut : shutP (ts.map valChan) j = (ts.map valChan).set j (kap, true, b, [], []) := by rw [shutP, HEV.out]
  rw [hwp] at hR0
  have HSH := hid hshut
  clear hg hk hk2 hgc hev hev2 hsz hwp hshut hgp
  cases cl with
  | true =>
    rw [if_pos rfl] at hR0
    have HR := hid hR0
    clear hR0
    go_enter Try.func5, Try.ntmps5
    go_wp2_with fail
    rw [← HV0.out]
    refine (specGoodH_is ao cap ts w0 true hl HTT.out (HZ.out.later dChan_ok hB0) HG.out).mono ?_
    rintro e w1 ⟨rfl, hb1⟩
    have hB1 := hB0.trans (hb1.mono hB0.size)
    have A1 := hid (A0.out.later hb1)
    have R1 := hid (R0.out.later hb1)
    have hs1 : w.heap.size + 1 + 1 ≤ w1.heap.size := Nat.le_trans hs0 hb1.size
    clear hb1 HV0 A0 R0 hB0 hs0
    have a0 := A1.out.c 0 rfl
    have af0 := A1.out.f 0 rfl
    have az := A1.out.size
    have r0 := R1.out.c 0 rfl
    have rf0 := R1.out.f 0 rfl
    have rz := R1.out.size
    go_wp2_with fail
    refine (l1In_is (j : Int) 0 ((ts.length : Int) - 1) w1 true HK.out).mono ?_
    rintro e wx ⟨rfl, hwx⟩
    rw [hwx]; clear hwx wx
    go_wp2_with fail
    clear a0 af0 az r0 rf0 rz
    refine (l4Own_any ao cap ts w1 hl HTT.out (HZ.out.later dChan_ok hB1)).mono ?_
    rintro e w3 ⟨⟨o, c, us0, rfl, hv0, hF0⟩, hb3⟩
    have hB3 := hB1.trans (hb3.mono hB1.size)
    have A3 := hid (A1.out.later hb3)
    have R3 := hid (R1.out.later hb3)
    have hs3 : w.heap.size + 1 + 1 ≤ w3.heap.size := Nat.le_trans hs1 hb3.size
    have hu0 : us0.length = ts.length := by have := congrArg List.length hv0; simpa using this
    rw [List.length_map]
    obtain ⟨w4, hW4⟩ : ∃ W4, W4 = w3.setCell ⟨w.heap.size, 0, none⟩ (.slice o ts.length c) := ⟨_, rfl⟩
    have hz4 : w4.heap.size = w3.heap.size := by rw [hW4]; simp [World.setCell]
    have hz14 : w1.heap.size ≤ w4.heap.size := by rw [hz4]; exact hb3.size
    have hB4 : Below w.heap.size w w4 := by rw [hW4]; exact hB3.setCell (p := ⟨w.heap.size, 0, none⟩) (by dsimp only; omega) _
    have A4 : Hid (Bx w4 w.heap.size [.slice o ts.length c]) := by rw [hW4]; exact A3.out.set 0 _
    have R4 : Hid (Bx w4 (w.heap.size + 1) [.slice none 0 0]) := by rw [hW4]; exact R3.out.other (a := ⟨w.heap.size, 0, none⟩) (by dsimp only; omega) _
    have F4 : Hid (DFr dChan w1.heap.size w4.heap.size w4 o c us0) := by
      rw [Hid, hz4, hW4]; exact DFr.keep dChan_ok hF0 fun q h1 _ _ => Below.heap_setCell w3 _ _ q (by dsimp only; omega)
    have hs4 : w.heap.size + 1 + 1 ≤ w4.heap.size := by omega
    have HW4 := hid hW4
    have HV4 := hid hv0
    have hj0 : j < us0.length := by omega
    obtain ⟨g, eo, hgg1, hgg2, hgg3, _⟩ := (show hChan.Fresh _ _ _ _ _ _ from F4.out.1).at (show 0 < us0.length by omega)
    subst eo
    have hx := hd_at F4.out hj0
    have hI := dChan_ok.fin (F4.out.2.1 j hj0)
    obtain ⟨⟨kap2, cl2, ⟨bo, bc, b2⟩, ⟨so, sc, s2⟩, ⟨ro, rc, r2⟩⟩, ex⟩ : ∃ v, v = el us0 j := ⟨_, rfl⟩
    have hval : valChan (el us0 j) = (kap, true, b, s, r) := by
      have h1 : el (us0.map valChan) j = valChan (el us0 j) := by simp [el, hj0]
      rw [← h1, hv0, HEV.out]
    rw [← ex] at hx hI hval
    simp only [valChan, Prod.mk.injEq] at hval
    obtain ⟨rfl, rfl, rfl, rfl, rfl⟩ := hval
    have HI : Hid (InChan w4.heap.size w4 bo b2 so s2 ro r2) := hI
    have HEX : Hid (el us0 j = (kap2, true, (bo, bc, b2), (so, sc, s2), (ro, rc, r2))) := ex.symm
    obtain ⟨x0, x1, x2, x3, x4⟩ := hx
    dsimp only at x0 x1 x2 x3 x4
    have a0 := A3.out.c 0 rfl
    have af0 := A3.out.f 0 rfl
    have az := A3.out.size
    have a4 := A4.out.c 0 rfl
    have az4 := A4.out.size
    have y0 := x0
    have y1 := x1
    have y2 := x2
    have y3 := x3
    have y4 := x4
    rw [hW4] at a4 y0 y1 y2 y3 y4
    clear hb3 hF0 hW4 A1 R1 hB1 ex hI hv0
    go_wp2_with fail
    rw [← HW4.out]
    clear a0 af0 az a4 az4 y0 y1 y2 y3 y4 HW4 A3 R3 hB3 hs3
    refine (specCloseC_any kap2 bo bc b2 so sc s2 ro rc r2 w4 (by omega) (by omega) (by omega) HI.out HGC.out).mono ?_
    rintro e w5 ⟨⟨bo', bc', so', sc', ro', rc', rfl⟩, hb5⟩
    have hB5 := hB4.trans (hb5.mono hB4.size)
    have A5 := hid (A4.out.later hb5)
    have R5 := hid (R4.out.later hb5)
    have hs5 : w.heap.size + 1 + 1 ≤ w5.heap.size := Nat.le_trans hs4 hb5.size
    have F5 := hid (DFr.later dChan_ok F4.out hb5)
    have hz5 := hb5.size
    obtain ⟨w6, hW6⟩ : ∃ W6, W6 = w5.alloc (.cells #[.int .i64 kap2, .bool true, .slice bo' b2.length bc', .slice so' s2.length sc', .slice ro' r2.length rc'] 45) := ⟨_, rfl⟩
    have hb6 : Below w5.heap.size w5 w6 := by rw [hW6]; exact below1 _ _
    have hB6 := hB5.trans (hb6.mono hB5.size)
    have A6 := hid (A5.out.later hb6)
    have R6 := hid (R5.out.later hb6)
    have hs6 : w.heap.size + 1 + 1 ≤ w6.heap.size := Nat.le_trans hs5 hb6.size
    have F6 := hid (DFr.later dChan_ok F5.out hb6)
    have hz6 := hb6.size
    have HW6 := hid hW6
    have a0 := A6.out.c 0 rfl
    have az := A6.out.size
    have r0 := R6.out.c 0 rfl
    have rf0 := R6.out.f 0 rfl
    have rz := R6.out.size
    rw [hW6] at a0 az r0 rf0 rz
    clear hb5 hb6 hW6 A4 R4 F4 A5 R5 F5 x0 x1 x2 x3 x4
    go_wp2
    rw [← HW6.out]
    have q0 := (R6.out.set 0 (.slice (some ⟨g, 0, none⟩) ts.length c)).c 0 rfl
    refine bodyPost_ret (v := .tuple #[.agg #[.slice (some ⟨g, 0, none⟩) ts.length c], .slice none 0 0, .int .i64 3]) (by simp [results, Try.results5, go_sem, q0]) rfl ?_
    rw [HR.out]
    refine ⟨⟨some ⟨g, 0, none⟩, c, us0, none, 0, by simp, HV4.out, .inl rfl, ?_⟩, hB6.setCell (p := ⟨w.heap.size + 1, 0, none⟩) (by dsimp only; omega) _⟩
    exact DFr.wide (lo := w1.heap.size) (hi := w4.heap.size) dChan_ok (DFr.keep dChan_ok F6.out fun q h1 _ _ => Below.heap_setCell w6 _ _ q (by dsimp only; omega)) (by omega) (by simp [World.setCell]; omega)
  | false =>
    rw [if_neg (by simp)] at hR0
    have HR := hid hR0
    clear hR0
    go_enter Try.func5, Try.ntmps5
    go_wp2_with fail
    rw [← HV0.out]
    refine (specGoodH_is ao cap ts w0 true hl HTT.out (HZ.out.later dChan_ok hB0) HG.out).mono ?_
    rintro e w1 ⟨rfl, hb1⟩
    have hB1 := hB0.trans (hb1.mono hB0.size)
    have A1 := hid (A0.out.later hb1)
    have R1 := hid (R0.out.later hb1)
    have hs1 : w.heap.size + 1 + 1 ≤ w1.heap.size := Nat.le_trans hs0 hb1.size
    clear hb1 HV0 A0 R0 hB0 hs0
    have a0 := A1.out.c 0 rfl
    have af0 := A1.out.f 0 rfl
    have az := A1.out.size
    have r0 := R1.out.c 0 rfl
    have rf0 := R1.out.f 0 rfl
    have rz := R1.out.size
    go_wp2_with fail
    refine (l1In_is (j : Int) 0 ((ts.length : Int) - 1) w1 true HK.out).mono ?_
    rintro e wx ⟨rfl, hwx⟩
    rw [hwx]; clear hwx wx
    go_wp2_with fail
    clear a0 af0 az r0 rf0 rz
    refine (l4Own_any ao cap ts w1 hl HTT.out (HZ.out.later dChan_ok hB1)).mono ?_
    rintro e w3 ⟨⟨o, c, us0, rfl, hv0, hF0⟩, hb3⟩
    have hB3 := hB1.trans (hb3.mono hB1.size)
    have A3 := hid (A1.out.later hb3)
    have R3 := hid (R1.out.later hb3)
    have hs3 : w.heap.size + 1 + 1 ≤ w3.heap.size := Nat.le_trans hs1 hb3.size
    have hu0 : us0.length = ts.length := by have := congrArg List.length hv0; simpa using this
    rw [List.length_map]
    obtain ⟨w4, hW4⟩ : ∃ W4, W4 = w3.setCell ⟨w.heap.size, 0, none⟩ (.slice o ts.length c) := ⟨_, rfl⟩
    have hz4 : w4.heap.size = w3.heap.size := by rw [hW4]; simp [World.setCell]
    have hz14 : w1.heap.size ≤ w4.heap.size := by rw [hz4]; exact hb3.size
    have hB4 : Below w.heap.size w w4 := by rw [hW4]; exact hB3.setCell (p := ⟨w.heap.size, 0, none⟩) (by dsimp only; omega) _
    have A4 : Hid (Bx w4 w.heap.size [.slice o ts.length c]) := by rw [hW4]; exact A3.out.set 0 _
    have R4 : Hid (Bx w4 (w.heap.size + 1) [.slice none 0 0]) := by rw [hW4]; exact R3.out.other (a := ⟨w.heap.size, 0, none⟩) (by dsimp only; omega) _
    have F4 : Hid (DFr dChan w1.heap.size w4.heap.size w4 o c us0) := by
      rw [Hid, hz4, hW4]; exact DFr.keep dChan_ok hF0 fun q h1 _ _ => Below.heap_setCell w3 _ _ q (by dsimp only; omega)
    have hs4 : w.heap.size + 1 + 1 ≤ w4.heap.size := by omega
    have HW4 := hid hW4
    have HV4 := hid hv0
    have hj0 : j < us0.length := by omega
    obtain ⟨g, eo, hgg1, hgg2, hgg3, _⟩ := (show hChan.Fresh _ _ _ _ _ _ from F4.out.1).at (show 0 < us0.length by omega)
    subst eo
    have hx := hd_at F4.out hj0
    have hI := dChan_ok.fin (F4.out.2.1 j hj0)
    obtain ⟨⟨kap2, cl2, ⟨bo, bc, b2⟩, ⟨so, sc, s2⟩, ⟨ro, rc, r2⟩⟩, ex⟩ : ∃ v, v = el us0 j := ⟨_, rfl⟩
    have hval : valChan (el us0 j) = (kap, false, b, s, r) := by
      have h1 : el (us0.map valChan) j = valChan (el us0 j) := by simp [el, hj0]
      rw [← h1, hv0, HEV.out]
    rw [← ex] at hx hI hval
    simp only [valChan, Prod.mk.injEq] at hval
    obtain ⟨rfl, rfl, rfl, rfl, rfl⟩ := hval
    have HI : Hid (InChan w4.heap.size w4 bo b2 so s2 ro r2) := hI
    have HEX : Hid (el us0 j = (kap2, false, (bo, bc, b2), (so, sc, s2), (ro, rc, r2))) := ex.symm
    obtain ⟨x0, x1, x2, x3, x4⟩ := hx
    dsimp only at x0 x1 x2 x3 x4
    have a0 := A3.out.c 0 rfl
    have af0 := A3.out.f 0 rfl
    have az := A3.out.size
    have a4 := A4.out.c 0 rfl
    have az4 := A4.out.size
    have y0 := x0
    have y1 := x1
    have y2 := x2
    have y3 := x3
    have y4 := x4
    rw [hW4] at a4 y0 y1 y2 y3 y4
    clear hb3 hF0 hW4 A1 R1 hB1 ex hI hv0
    go_wp2_with fail
    rw [← HW4.out]
    clear a0 af0 az a4 az4 y0 y1 y2 y3 y4 HW4 A3 R3 hB3 hs3
    refine (specClose_any kap2 bo bc b2 so sc s2 ro rc r2 w4 (by omega) (by omega) (by omega) HI.out HGC.out).mono ?_
    rintro e w5 ⟨⟨bo', bc', wo, wc, rfl, hFb, hFk⟩, hb5⟩
    have hB5 := hB4.trans (hb5.mono hB4.size)
    have A5 := hid (A4.out.later hb5)
    have R5 := hid (R4.out.later hb5)
    have hs5 : w.heap.size + 1 + 1 ≤ w5.heap.size := Nat.le_trans hs4 hb5.size
    have F5 := hid (DFr.later dChan_ok F4.out hb5)
    have hz5 := hb5.size
    obtain ⟨w6, hW6⟩ : ∃ W6, W6 = w5.alloc (.cells #[.int .i64 kap2, .bool true, .slice bo' b2.length bc', .slice none 0 0, .slice none 0 0] 45) := ⟨_, rfl⟩
    have hb6 : Below w5.heap.size w5 w6 := by rw [hW6]; exact below1 _ _
    have hB6 := hB5.trans (hb6.mono hB5.size)
    have A6 := hid (A5.out.later hb6)
    have R6 := hid (R5.out.later hb6)
    have hs6 : w.heap.size + 1 + 1 ≤ w6.heap.size := Nat.le_trans hs5 hb6.size
    have F6 := hid (DFr.later dChan_ok F5.out hb6)
    have KF6 := hid (hFk.later hb6)
    have BF6 := hid (hFb.later hb6)
    have hz6 := hb6.size
    obtain ⟨pO, hpO⟩ : ∃ pO, pO = w5.heap.size := ⟨_, rfl⟩
    have O6 : Hid (Bx w6 pO [.int .i64 kap2, .bool true, .slice bo' b2.length bc', .slice none 0 0, .slice none 0 0]) := by rw [hW6, hpO]; exact Bx.new [.int .i64 kap2, .bool true, .slice bo' b2.length bc', .slice none 0 0, .slice none 0 0] _ rfl
    have HP : Hid (w5.heap.size = pO ∧ w4.heap.size ≤ pO) := ⟨hpO.symm, by omega⟩
    have HW6 := hid hW6
    clear hb5 hb6 hW6 A4 R4 F4 A5 R5 F5 x0 x1 x2 x3 x4 hFb hFk hpO
    have a0 := A6.out.c 0 rfl
    have az := A6.out.size
    have c0 := O6.out.c 0 rfl
    have c1 := O6.out.c 1 rfl
    have c2 := O6.out.c 2 rfl
    have c3 := O6.out.c 3 rfl
    have c4 := O6.out.c 4 rfl
    have cz := O6.out.size
    have z0 := hd_frozen F6.out (by omega) (j * 5)
    have z1 := hd_frozen F6.out (by omega) (j * 5 + 1)
    have z2 := hd_frozen F6.out (by omega) (j * 5 + 2)
    have z3 := hd_frozen F6.out (by omega) (j * 5 + 3)
    have z4 := hd_frozen F6.out (by omega) (j * 5 + 4)
    obtain ⟨v0, v1, v2, v3, v4⟩ := hd_at F6.out hj0
    obtain ⟨w7, hW7⟩ : ∃ W7, W7 = (((((w6.setCell ⟨g, j * 5, none⟩ (.int .i64 kap2)).setCell ⟨g, j * 5 + 1, none⟩ (.bool true)).setCell ⟨g, j * 5 + 2, none⟩ (.slice bo' b2.length bc')).setCell ⟨g, j * 5 + 3, none⟩ (.slice none 0 0)).setCell ⟨g, j * 5 + 4, none⟩ (.slice none 0 0)) := ⟨_, rfl⟩
    have hz7 : w7.heap.size = w6.heap.size := by rw [hW7]; simp [World.setCell]
    have F7 := hid (DFr.newB F6.out hj0 (kap := kap2) (cl := true) (BF6.out.wide (lo' := w4.heap.size) (hi' := w6.heap.size) (Nat.le_refl _) (by omega)) (by omega))
    rw [← hW7, ← hz7] at F7
    have A7 : Hid (Bx w7 w.heap.size [.slice (some ⟨g, 0, none⟩) ts.length c]) := by rw [hW7]; exact (((((A6.out.other (a := ⟨g, j * 5, none⟩) (by dsimp only; omega) (.int .i64 kap2)).other (a := ⟨g, j * 5 + 1, none⟩) (by dsimp only; omega) (.bool true)).other (a := ⟨g, j * 5 + 2, none⟩) (by dsimp only; omega) (.slice bo' b2.length bc')).other (a := ⟨g, j * 5 + 3, none⟩) (by dsimp only; omega) (.slice none 0 0)).other (a := ⟨g, j * 5 + 4, none⟩) (by dsimp only; omega) (.slice none 0 0))
    have R7 : Hid (Bx w7 (w.heap.size + 1) [.slice none 0 0]) := by rw [hW7]; exact (((((R6.out.other (a := ⟨g, j * 5, none⟩) (by dsimp only; omega) (.int .i64 kap2)).other (a := ⟨g, j * 5 + 1, none⟩) (by dsimp only; omega) (.bool true)).other (a := ⟨g, j * 5 + 2, none⟩) (by dsimp only; omega) (.slice bo' b2.length bc')).other (a := ⟨g, j * 5 + 3, none⟩) (by dsimp only; omega) (.slice none 0 0)).other (a := ⟨g, j * 5 + 4, none⟩) (by dsimp only; omega) (.slice none 0 0))
    have hB7 : Below w.heap.size w w7 := by rw [hW7]; exact (((((hB6.setCell (p := ⟨g, j * 5, none⟩) (by dsimp only; omega) (.int .i64 kap2)).setCell (p := ⟨g, j * 5 + 1, none⟩) (by dsimp only; omega) (.bool true)).setCell (p := ⟨g, j * 5 + 2, none⟩) (by dsimp only; omega) (.slice bo' b2.length bc')).setCell (p := ⟨g, j * 5 + 3, none⟩) (by dsimp only; omega) (.slice none 0 0)).setCell (p := ⟨g, j * 5 + 4, none⟩) (by dsimp only; omega) (.slice none 0 0))
    have KF7 : Hid (kK.Fresh w4.heap.size w5.heap.size w7 wo wc (wokeL (r2 ++ s2))) := by rw [hW7]; exact (((((KF6.out.setBelow (a := ⟨g, j * 5, none⟩) (by dsimp only; omega) (.int .i64 kap2)).setBelow (a := ⟨g, j * 5 + 1, none⟩) (by dsimp only; omega) (.bool true)).setBelow (a := ⟨g, j * 5 + 2, none⟩) (by dsimp only; omega) (.slice bo' b2.length bc')).setBelow (a := ⟨g, j * 5 + 3, none⟩) (by dsimp only; omega) (.slice none 0 0)).setBelow (a := ⟨g, j * 5 + 4, none⟩) (by dsimp only; omega) (.slice none 0 0))
    have HV7 : Hid ((us0.set j ((kap2, true, (bo', bc', b2), (none, 0, []), (none, 0, [])) : LChan)).map valChan = shutP (ts.map valChan) j) := by rw [Hid, List.map_set, HV4.out, HSH.out]; rfl
    have hs7 : w.heap.size + 1 + 1 ≤ w7.heap.size := by omega
    have HW7 := hid hW7
    have hw67 : w5.heap.size ≤ w7.heap.size := by omega
    have hw47 : w4.heap.size ≤ w7.heap.size := by omega
    rw [HW6.out] at a0 az z0 z1 z2 z3 z4 v0 v1 v2 v3 v4
    rw [HW6.out, ← HP.out.1] at c0 c1 c2 c3 c4 cz
    clear hW7 A6 R6 F6 KF6 BF6 O6
    go_upto_region 8 with fail
    rw [← HW6.out, ← HW7.out]
    clear a0 az z0 z1 z2 z3 z4 v0 v1 v2 v3 v4 c0 c1 c2 c3 c4 cz HW6 HW7 HP
    have hl7 : (us0.set j ((kap2, true, (bo', bc', b2), (none, 0, []), (none, 0, [])) : LChan)).length = ts.length := by rw [List.length_set]; exact hu0
    have hlw : (wokeL (r2 ++ s2)).length ≤ 1048576 := by rw [wokeL_len]; simp; omega
    have htt : totP (shutP (ts.map valChan) j) ≤ 1048576 := Nat.le_trans (totP_shut _ _) (by rw [← totChan_P]; exact HTT.out)
    have hcon := l4Woken_any w1.heap.size (some ⟨g, 0, none⟩) c _ (shutP (ts.map valChan) j) wo wc (wokeL (r2 ++ s2)) w7.drew (by exact Nat.le_trans hz14 hw47) (by rw [hl7]; omega) HV7.out (by rw [hl7]; exact hl) htt hlw (by exact F7.out) (by exact KF7.out.wide hz14 hw67)
    rw [hl7] at hcon
    have HCON := hid hcon
    have HU := hid hu0
    clear hcon hl7 hlw htt hu0 F7 KF7 HV7 HI HEX
    have b0 := A7.out.c 0 rfl
    have bz := A7.out.size
    have r0 := R7.out.c 0 rfl
    have rf0 := R7.out.f 0 rfl
    have rz := R7.out.size
    go_region_law (first
      | (go_simp; go_at_call 19; refine HCON.out.mono ?_; rintro e w8 ⟨⟨oo, oc, us8, rfl, hK8, hul8, hv8, hD8⟩, hb80⟩; have hb8 : Below w1.heap.size w7 w8 := ((Below.refl w7.heap.size w7).drew.mono (by omega)).trans hb80; have A8 := hid (A7.out.below hb8 (by omega)); have R8 := hid (R7.out.below hb8 (by omega)); have hB8 : Below w.heap.size w w8 := hB7.trans (hb8.mono (by omega)); have K8 := hid hK8; have D8 := hid hD8; have V8 := hid hv8; have hz8 := hb8.size; clear hK8 hul8 hv8 hD8 hb80 hb8; have q0 := A8.out.c 0 rfl; have qz := A8.out.size; have p0 := R8.out.c 0 rfl; have pf := R8.out.f 0 rfl; have pz := R8.out.size))
    all_goals
      go_wp2
      have s0 := (R8.out.set 0 (.slice (some ⟨g, 0, none⟩) ts.length c)).c 0 rfl
      refine bodyPost_ret (v := .tuple #[.agg #[.slice (some ⟨g, 0, none⟩) ts.length c], .slice oo (tellW (fun _ => 1) (wokeL (r2 ++ s2))).1.length oc, .int .i64 0]) (by simp [results, Try.results5, go_sem, s0]) rfl ?_
      rw [HR.out]
      refine ⟨⟨some ⟨g, 0, none⟩, c, us8, oo, oc, by simp [shutP], V8.out, ?_, ?_⟩, hB8.setCell (p := ⟨w.heap.size + 1, 0, none⟩) (by dsimp only; omega) _⟩
      · exact Kind.Fresh.wide (lo := w7.heap.size) (hi := w8.heap.size) (K8.out.setBelow (a := ⟨w.heap.size + 1, 0, none⟩) (by simp <;> omega) _) (by omega) (by simp [World.setCell])
      · exact DFr.wide (lo := w1.heap.size) (hi := w8.heap.size) dChan_ok (DFr.keep dChan_ok D8.out fun q h1 _ _ => Below.heap_setCell w8 _ _ q (by dsimp only; omega)) (by omega) (by simp [World.setCell])
end Go.Proofs.Ytdjdbcfcccbhpaa
