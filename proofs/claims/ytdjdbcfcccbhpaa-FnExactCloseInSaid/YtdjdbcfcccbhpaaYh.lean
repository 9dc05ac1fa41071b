
/- CloseIn: the program. No conditions but those written. -/
import Derived.Test.YtdjdbcfcccbhpaaPYgKo
import Derived.Test.YtdjdbcfcccbhpaaPLkhYl
namespace Go.Proofs.Ytdjdbcfcccbhpaa
open Go.RowKit Go.Maps

/-- A hub and those told, each in memory of its own, and a code, as an ending. -/
def AnsC (w : World) (R : List PChan × List (Int × Int × Int × Bool) × Int) (e : Ending) (w' : World) : Prop := (∃ m o c us wo wc, e = .returned (.tuple #[.agg #[.slice o R.1.length c], .slice wo R.2.1.length wc, .int .i64 R.2.2]) ∧ us.map valChan = R.1 ∧ w.heap.size ≤ m ∧ m ≤ w'.heap.size ∧ kK.Fresh w.heap.size m w' wo wc R.2.1 ∧ DFr dChan m w'.heap.size w' o c us) ∧ Below w.heap.size w w'
def inB (n : Nat) (k : Int) : Bool := decide (0 ≤ k) && decide (k < n)
theorem hasChan_is (ao : Option Addr) (n cap : Nat) (k : Int) (w : World) (x : Bool) (_hn : n ≤ 1048576) (hx : inB n k = x) :
    Calls Try.prog 22 #[.agg #[.slice ao n cap], .int .i64 k] w fun e w' => e = .returned (.bool x) ∧ Below w.heap.size w w' := by
  have hB0 := below1 w (.cells #[.slice ao n cap] 28)
  subst hx
  by_cases h : 0 ≤ k
  · have h' : decide (0 ≤ k) = true := by simpa using h
    go_enter Try.func22, Try.ntmps22
    go_wp2
    go_ret
    exact ⟨by simp [inB, h], hB0⟩
  · have h' : decide (0 ≤ k) = false := by simpa using h
    go_enter Try.func22, Try.ntmps22
    go_wp2
    go_ret
    exact ⟨by simp [inB]; omega, hB0⟩
theorem Kind.Fresh.inHi {α : Type} {K : Kind α} [Inhabited α] {lo hi : Nat} {W : World} {to : Option Addr} {tc : Nat} {xs : List α} (h : K.Fresh lo hi W to tc xs) : K.In hi W to xs := by
  have h0 := h.in
  rcases h with rfl | ⟨g, rfl, hg, _⟩
  · exact .inl rfl
  · rcases h0 with rfl | ⟨b, off, e, hb, hc⟩
    · exact .inl rfl
    · simp at e; obtain ⟨rfl, rfl⟩ := e
      exact .inr ⟨g, 0, rfl, hg, hc⟩
theorem totP_shut (ps : List PChan) (k : Nat) : totP (shutP ps k) ≤ totP ps := by
  induction ps generalizing k with
  | nil => exact Nat.le_refl _
  | cons c r ih =>
    cases k with
    | zero => simp only [shutP, List.set_cons_zero, totP, List.map_cons, List.sum_cons]; have : el (c :: r) 0 = c := rfl; rw [this]; simp; omega
    | succ k =>
      have h := ih k
      have e : shutP (c :: r) (k + 1) = c :: shutP r k := rfl
      rw [e]; simp only [totP, List.map_cons, List.sum_cons] at h ⊢; omega
theorem wts_shut {ps : List PChan} {k : Nat} : ∀ x ∈ wts (shutP ps k), x ∈ wts ps := by
  intro x hx
  obtain ⟨c, hc, hx2⟩ := List.mem_flatMap.1 hx
  rcases List.mem_or_eq_of_mem_set hc with h1 | h1
  · exact List.mem_flatMap.2 ⟨c, h1, hx2⟩
  · subst h1; simp at hx2
theorem closeR_bad {ps : List PChan} {k : Int} (h : goodHB ps = false) : closeR ps k = ([], [], 2) := by rw [closeR, if_neg]; rw [h]; simp
theorem closeR_out {ps : List PChan} {k : Int} (h : inB ps.length k = false) : closeR ps k = ([], [], 2) := by rw [closeR, if_neg]; intro h1; simp [inB] at h; omega
set_option maxRecDepth 100000 in
set_option maxHeartbeats 16000000 in
theorem implCloseIn_any (ao : Option Addr) (cap : Nat) (ts : List LChan) (k : Int) (w : World) (hl : ts.length ≤ 1048576) (ht : totChan ts ≤ 1048576) (hz : DIn dChan w.heap.size w ao ts) :
    Calls Try.prog 7 #[.agg #[.slice ao ts.length cap], .int .i64 k] w fun e w' => AnsC w (closeR (ts.map valChan) k) e w' := by
  have HZ := hid hz
  have HTT := hid ht
  clear hz ht
  obtain ⟨V0, hV0⟩ : ∃ V0, V0 = (w.alloc (.cells #[.slice ao ts.length cap] 28)).alloc (.cells #[.slice none 0 0] 28) := ⟨_, rfl⟩
  have hB0 : Below w.heap.size w V0 := by rw [hV0]; exact below2 _ _ _
  have A0 : Hid (Bx V0 w.heap.size [.slice ao ts.length cap]) := by rw [hV0]; exact (Bx.new [.slice ao ts.length cap] _ rfl).alloc _
  have R0 : Hid (Bx V0 (w.heap.size + 1) [.slice none 0 0]) := by rw [hV0]; exact Bx.new [.slice none 0 0] _ (by simp)
  have hs0 : w.heap.size + 1 + 1 ≤ V0.heap.size := by rw [hV0]; simp
  have HV0 := hid hV0
  clear hV0
  rcases hg : goodHB (ts.map valChan) with _ | _
  · have HR := hid (closeR_bad (k := k) hg)
    have HG := hid hg
    clear hg
    go_enter Try.func7, Try.ntmps7
    go_wp2_with fail
    rw [← HV0.out]
    refine (implGoodH_is ao cap ts V0 false hl HTT.out (HZ.out.later dChan_ok hB0) HG.out).mono ?_
    rintro e w1 ⟨rfl, hb1⟩
    have hB1 := hB0.trans (hb1.mono hB0.size)
    have A1 := hid (A0.out.later hb1)
    have R1 := hid (R0.out.later hb1)
    have hs1 : w.heap.size + 1 + 1 ≤ w1.heap.size := Nat.le_trans hs0 hb1.size
    have a0 := A1.out.c 0 rfl
    have r0 := R1.out.c 0 rfl
    have rf0 := R1.out.f 0 rfl
    have rz := R1.out.size
    clear hb1 HV0 A0 R0 hB0 hs0
    go_wp2
    refine bodyPost_ret (v := .tuple #[.agg #[.slice none 0 0], .slice none 0 0, .int .i64 2]) (by simp [results, Try.results7, go_sem, r0]) rfl ?_
    rw [HR.out]
    exact ⟨⟨w1.heap.size, none, 0, [], none, 0, rfl, rfl, hB1.size, by simp [World.setCell], .inl rfl, DFr.nothing _ _ _⟩, hB1.setCell (p := ⟨w.heap.size + 1, 0, none⟩) (by dsimp only; omega) _⟩
  have HG := hid hg
  rcases hk : inB ts.length k with _ | _
  · have HR := hid (closeR_out (ps := ts.map valChan) (k := k) (by rw [List.length_map]; exact hk))
    have HK := hid hk
    clear hg hk
    go_enter Try.func7, Try.ntmps7
    go_wp2_with fail
    rw [← HV0.out]
    refine (implGoodH_is ao cap ts V0 true hl HTT.out (HZ.out.later dChan_ok hB0) HG.out).mono ?_
    rintro e w1 ⟨rfl, hb1⟩
    have hB1 := hB0.trans (hb1.mono hB0.size)
    have A1 := hid (A0.out.later hb1)
    have R1 := hid (R0.out.later hb1)
    have hs1 : w.heap.size + 1 + 1 ≤ w1.heap.size := Nat.le_trans hs0 hb1.size
    have a0 := A1.out.c 0 rfl
    have r0 := R1.out.c 0 rfl
    have rf0 := R1.out.f 0 rfl
    have rz := R1.out.size
    clear hb1 HV0 A0 R0 hB0 hs0
    go_wp2_with fail
    clear a0 r0 rf0 rz
    refine (hasChan_is ao ts.length cap k w1 false hl HK.out).mono ?_
    rintro e w2 ⟨rfl, hb2⟩
    have hB2 := hB1.trans (hb2.mono hB1.size)
    have A2 := hid (A1.out.later hb2)
    have R2 := hid (R1.out.later hb2)
    have hs2 : w.heap.size + 1 + 1 ≤ w2.heap.size := Nat.le_trans hs1 hb2.size
    have a0 := A2.out.c 0 rfl
    have r0 := R2.out.c 0 rfl
    have rf0 := R2.out.f 0 rfl
    have rz := R2.out.size
    clear hb2 A1 R1 hB1 hs1
    go_wp2
    refine bodyPost_ret (v := .tuple #[.agg #[.slice none 0 0], .slice none 0 0, .int .i64 2]) (by simp [results, Try.results7, go_sem, r0]) rfl ?_
    rw [HR.out]
    exact ⟨⟨w2.heap.size, none, 0, [], none, 0, rfl, rfl, hB2.size, by simp [World.setCell], .inl rfl, DFr.nothing _ _ _⟩, hB2.setCell (p := ⟨w.heap.size + 1, 0, none⟩) (by dsimp only; omega) _⟩
  have HK := hid hk
  have hk2 : 0 ≤ k ∧ k < ts.length := by simpa [inB] using hk
  obtain ⟨j, rfl⟩ : ∃ j : Nat, k = (j : Int) := ⟨k.toNat, by omega⟩
  have hj : j < ts.length := by omega
  have hgp := (goodHB_all hg).2.1
  have hwt := wts_ok hgp
  have hev : el (ts.map valChan) j = valChan (el ts j) := by simp [el, hj]
  have hgc := hgp _ (el_val hj)
  have hsz := totChan_el hj
  have hI := HZ.out.2 j hj
  obtain ⟨b0, off, rfl, hb, hc⟩ := hChan_at HZ.out.1 hj
  obtain ⟨⟨kap, cl, ⟨bo, bc, b⟩, ⟨so, sc, s⟩, ⟨ro, rc, r⟩⟩, ex'⟩ : ∃ v, v = el ts j := ⟨_, rfl⟩
  have ex := ex'.symm
  rw [ex] at hev hgc hsz hI
  have hsz3 : b.length + s.length + r.length ≤ 1048576 := by have := HTT.out; simp [sizeChan] at hsz; omega
  have HGC : Hid (goodP (kap, cl, b, s, r) = true) := hgc
  have HI : Hid (InChan w.heap.size w bo b so s ro r) := hI
  have HEV : Hid (el (ts.map valChan) j = (kap, cl, b, s, r)) := hev
  have hkl : (j : Int) < (ts.length : Int) := by omega
  have hR0 : closeR (ts.map valChan) (j : Int) = if (el (ts.map valChan) j).2.1 = true then (ts.map valChan, [], 3) else ((shutP (ts.map valChan) j).map (keepP (tellW (fun _ => 1) (wokeP (ts.map valChan) j)).2), (tellW (fun _ => 1) (wokeP (ts.map valChan) j)).1, 0) := by
    rw [closeR, if_pos ⟨hg, by omega, by rw [List.length_map]; omega⟩]; simp
  rw [HEV.out] at hR0
  dsimp only at hR0
  clear hg hk ex' hgc hI hsz hev hk2
  cases cl with
  | true =>
    rw [if_pos rfl] at hR0
    have HR := hid hR0
    clear hR0 hgp hwt
    go_enter Try.func7, Try.ntmps7
    go_wp2_with fail
    rw [← HV0.out]
    refine (implGoodH_is (some ⟨b0, off, none⟩) cap ts V0 true hl HTT.out (HZ.out.later dChan_ok hB0) HG.out).mono ?_
    rintro e w1 ⟨rfl, hb1⟩
    have hB1 := hB0.trans (hb1.mono hB0.size)
    have A1 := hid (A0.out.later hb1)
    have R1 := hid (R0.out.later hb1)
    have hs1 : w.heap.size + 1 + 1 ≤ w1.heap.size := Nat.le_trans hs0 hb1.size
    have a0 := A1.out.c 0 rfl
    have r0 := R1.out.c 0 rfl
    have rf0 := R1.out.f 0 rfl
    have rz := R1.out.size
    clear hb1 HV0 A0 R0 hB0 hs0
    go_wp2_with fail
    clear a0 r0 rf0 rz
    refine (hasChan_is (some ⟨b0, off, none⟩) ts.length cap (j : Int) w1 true hl HK.out).mono ?_
    rintro e w2 ⟨rfl, hb2⟩
    have hB2 := hB1.trans (hb2.mono hB1.size)
    have A2 := hid (A1.out.later hb2)
    have R2 := hid (R1.out.later hb2)
    have hs2 : w.heap.size + 1 + 1 ≤ w2.heap.size := Nat.le_trans hs1 hb2.size
    have a0 := A2.out.c 0 rfl
    have r0 := R2.out.c 0 rfl
    have rf0 := R2.out.f 0 rfl
    have rz := R2.out.size
    clear hb2 A1 R1 hB1 hs1
    have e1 := (hB2.cell (p := ⟨b0, off + j * 5, none⟩) hb).trans (hc j hj).1
    have e2 := (hB2.cell (p := ⟨b0, off + j * 5 + 1, none⟩) hb).trans (hc j hj).2.1
    have e3 := (hB2.cell (p := ⟨b0, off + j * 5 + 2, none⟩) hb).trans (hc j hj).2.2.1
    have e4 := (hB2.cell (p := ⟨b0, off + j * 5 + 3, none⟩) hb).trans (hc j hj).2.2.2.1
    have e5 := (hB2.cell (p := ⟨b0, off + j * 5 + 4, none⟩) hb).trans (hc j hj).2.2.2.2
    rw [ex] at e1 e2 e3 e4 e5
    dsimp only at e1 e2 e3 e4 e5
    clear hc ex
    go_wp2_with fail
    refine (implCloseC_any kap bo bc b so sc s ro rc r w2 (by omega) (by omega) (by omega) (HI.out.later hB2) HGC.out).mono ?_
    rintro e w3 ⟨⟨bo', bc', so', sc', ro', rc', rfl⟩, hb3⟩
    have hB3 := hB2.trans (hb3.mono hB2.size)
    have A3 := hid (A2.out.later hb3)
    have R3 := hid (R2.out.later hb3)
    have hs3 : w.heap.size + 1 + 1 ≤ w3.heap.size := Nat.le_trans hs2 hb3.size
    obtain ⟨W4, hW4⟩ : ∃ W4, W4 = w3.alloc (.cells #[.int .i64 kap, .bool true, .slice bo' b.length bc', .slice so' s.length sc', .slice ro' r.length rc'] 45) := ⟨_, rfl⟩
    have hb4 : Below w3.heap.size w3 W4 := by rw [hW4]; exact below1 _ _
    have hB4 := hB3.trans (hb4.mono hB3.size)
    have R4 := hid (R3.out.later hb4)
    have hs4 : w.heap.size + 1 + 1 ≤ W4.heap.size := Nat.le_trans hs3 hb4.size
    have HW4 := hid hW4
    clear a0 r0 rf0 rz e1 e2 e3 e4 e5
    have a0 := A3.out.c 0 rfl
    have az := A3.out.size
    clear hb3 hb4 hW4 A2 R2
    go_wp2_with fail
    rw [← HW4.out]
    clear a0 az HW4 A3 R3
    refine (copyHub_any (some ⟨b0, off, none⟩) cap ts W4 hl HTT.out (HZ.out.later dChan_ok hB4)).mono ?_
    rintro e w5 ⟨⟨o, c, us, rfl, hv5, hF5⟩, hb5⟩
    have hB5 := hB4.trans (hb5.mono hB4.size)
    have R5 := hid (R4.out.later hb5)
    have F5 := hid hF5
    have HV5 := hid hv5
    have hz5 := hb5.size
    have r0 := R5.out.c 0 rfl
    have rf0 := R5.out.f 0 rfl
    have rz := R5.out.size
    clear hb5 hF5 hv5
    go_wp2
    refine bodyPost_ret (v := .tuple #[.agg #[.slice o ts.length c], .slice none 0 0, .int .i64 3]) (by simp [results, Try.results7, go_sem, r0]) rfl ?_
    rw [HR.out]
    refine ⟨⟨W4.heap.size, o, c, us, none, 0, by simp, HV5.out, by omega, by simpa [World.setCell] using hz5, .inl rfl, ?_⟩, hB5.setCell (p := ⟨w.heap.size + 1, 0, none⟩) (by dsimp only; omega) _⟩
    exact DFr.wide (lo := W4.heap.size) (hi := w5.heap.size) dChan_ok (DFr.keep dChan_ok F5.out fun q h1 _ _ => Below.heap_setCell w5 _ _ q (by dsimp only; omega)) (by omega) (by simp [World.setCell])
  | false =>
    rw [if_neg (by simp)] at hR0
    have hjp : j < (ts.map valChan).length := by rw [List.length_map]; exact hj
    have hwp : wokeP (ts.map valChan) j = wokeL (r ++ s) := by rw [wokeP, HEV.out]
    have hts := tell_same _ _ (woke_waits hjp)
    have hks := keepP_shut hjp
    rw [← hks, ← hts.1, hwp] at hR0
    have htk : Hid (∀ x ∈ wokeL (r ++ s), TaskN x.1) := fun x hx => by
      have h1 : x ∈ wokeP (ts.map valChan) j := by rw [hwp]; exact hx
      simp only [wokeP, wokeL, List.mem_map, List.mem_append] at h1
      obtain ⟨y, hy, rfl⟩ := h1
      have := hwt y (List.mem_flatMap.2 ⟨el (ts.map valChan) j, el_mem hjp, List.mem_append.2 hy.symm⟩)
      exact ⟨this.1, this.2.1⟩
    have hok : Hid (∀ x ∈ wts (shutP (ts.map valChan) j), TaskN x.1) := fun x hx => by
      have := hwt x (wts_shut x hx)
      exact ⟨this.1, this.2.1⟩
    have HR := hid hR0
    have HGP := hid hgp
    clear hR0 hgp hwt hts hks hwp
    go_enter Try.func7, Try.ntmps7
    go_wp2_with fail
    rw [← HV0.out]
    refine (implGoodH_is (some ⟨b0, off, none⟩) cap ts V0 true hl HTT.out (HZ.out.later dChan_ok hB0) HG.out).mono ?_
    rintro e w1 ⟨rfl, hb1⟩
    have hB1 := hB0.trans (hb1.mono hB0.size)
    have A1 := hid (A0.out.later hb1)
    have R1 := hid (R0.out.later hb1)
    have hs1 : w.heap.size + 1 + 1 ≤ w1.heap.size := Nat.le_trans hs0 hb1.size
    have a0 := A1.out.c 0 rfl
    have r0 := R1.out.c 0 rfl
    have rf0 := R1.out.f 0 rfl
    have rz := R1.out.size
    clear hb1 HV0 A0 R0 hB0 hs0
    go_wp2_with fail
    clear a0 r0 rf0 rz
    refine (hasChan_is (some ⟨b0, off, none⟩) ts.length cap (j : Int) w1 true hl HK.out).mono ?_
    rintro e w2 ⟨rfl, hb2⟩
    have hB2 := hB1.trans (hb2.mono hB1.size)
    have A2 := hid (A1.out.later hb2)
    have R2 := hid (R1.out.later hb2)
    have hs2 : w.heap.size + 1 + 1 ≤ w2.heap.size := Nat.le_trans hs1 hb2.size
    have a0 := A2.out.c 0 rfl
    have r0 := R2.out.c 0 rfl
    have rf0 := R2.out.f 0 rfl
    have rz := R2.out.size
    clear hb2 A1 R1 hB1 hs1
    have e1 := (hB2.cell (p := ⟨b0, off + j * 5, none⟩) hb).trans (hc j hj).1
    have e2 := (hB2.cell (p := ⟨b0, off + j * 5 + 1, none⟩) hb).trans (hc j hj).2.1
    have e3 := (hB2.cell (p := ⟨b0, off + j * 5 + 2, none⟩) hb).trans (hc j hj).2.2.1
    have e4 := (hB2.cell (p := ⟨b0, off + j * 5 + 3, none⟩) hb).trans (hc j hj).2.2.2.1
    have e5 := (hB2.cell (p := ⟨b0, off + j * 5 + 4, none⟩) hb).trans (hc j hj).2.2.2.2
    rw [ex] at e1 e2 e3 e4 e5
    dsimp only at e1 e2 e3 e4 e5
    clear hc ex
    go_wp2_with fail
    refine (implClose_any kap bo bc b so sc s ro rc r w2 (by omega) (by omega) (by omega) (HI.out.later hB2) HGC.out).mono ?_
    rintro e w3 ⟨⟨bo', bc', wo, wc, rfl, hFb, hFk⟩, hb3⟩
    have hB3 := hB2.trans (hb3.mono hB2.size)
    have A3 := hid (A2.out.later hb3)
    have R3 := hid (R2.out.later hb3)
    have hs3 : w.heap.size + 1 + 1 ≤ w3.heap.size := Nat.le_trans hs2 hb3.size
    obtain ⟨W4, hW4⟩ : ∃ W4, W4 = w3.alloc (.cells #[.int .i64 kap, .bool true, .slice bo' b.length bc', .slice none 0 0, .slice none 0 0] 45) := ⟨_, rfl⟩
    have hb4 : Below w3.heap.size w3 W4 := by rw [hW4]; exact below1 _ _
    have hB4 := hB3.trans (hb4.mono hB3.size)
    have A4 := hid (A3.out.later hb4)
    have R4 := hid (R3.out.later hb4)
    obtain ⟨pO, hpO⟩ : ∃ pO, pO = w3.heap.size := ⟨_, rfl⟩
    have O4 : Hid (Bx W4 pO [.int .i64 kap, .bool true, .slice bo' b.length bc', .slice none 0 0, .slice none 0 0]) := by rw [hW4, hpO]; exact Bx.new [.int .i64 kap, .bool true, .slice bo' b.length bc', .slice none 0 0, .slice none 0 0] _ rfl
    have hs4 : w.heap.size + 1 + 1 ≤ W4.heap.size := Nat.le_trans hs3 hb4.size
    have hpo : w3.heap.size ≤ pO := by omega
    have KF4 := hid (hFk.later hb4)
    have BF4 := hid (hFb.later hb4)
    have h34 := hb4.size
    have HW4 := hid hW4
    clear a0 r0 rf0 rz e1 e2 e3 e4 e5
    have a0 := A3.out.c 0 rfl
    have az := A3.out.size
    have hcd : (0 : Int) ≠ 3 := by decide
    clear hb3 hb4 hW4 A2 R2 hFb hFk
    go_wp2_with fail
    rw [← HW4.out]
    rw [← hpO]
    clear a0 az HW4 A3 R3 hpO
    refine (placesOf_any (some ⟨b0, off, none⟩) cap ts W4 hl HTT.out (HZ.out.later dChan_ok hB4) HGP.out).mono ?_
    rintro e w5 ⟨⟨g, n, rfl, hg5, hn5, hM5⟩, hb5⟩
    have hB5 := hB4.trans (hb5.mono hB4.size)
    have A5 := hid (A4.out.later hb5)
    have R5 := hid (R4.out.later hb5)
    have O5 := hid (O4.out.later hb5)
    have hpo4 := O4.out.size
    have KF5 := hid (KF4.out.later hb5)
    have BF5 := hid (BF4.out.later hb5)
    have M5 := hid hM5
    have hgm5 := hid hM5.lt
    have h45 := hb5.size
    have hlk : (wokeL (r ++ s)).length ≤ 1048576 := by rw [wokeL_len]; simp; omega
    have KI5 : Hid (kK.In g w5 wo (wokeL (r ++ s))) := KF5.out.inHi.up (by omega)
    clear hb5 A4 R4 O4 KF4 BF4 hM5 KF5
    go_wp2_with fail
    refine (tellOnce_any wo wc (wokeL (r ++ s)) g n _ w5 hlk KI5.out M5.out htk.out).mono ?_
    rintro e w6 ⟨⟨to', tc', rfl, hF6⟩, hM6, hb6⟩
    have hB6 := hB5.trans (hb6.mono (by omega))
    have A6 := hid (A5.out.below hb6 (by omega))
    have R6 := hid (R5.out.below hb6 (by omega))
    have O6 := hid (O5.out.below hb6 (by omega))
    have BI6 : Hid (kI.In w3.heap.size w6 bo' b) := BF5.out.inHi.below (hb6.mono (by omega))
    have T6 := hid hF6
    have M6 := hid hM6
    have h56 := hb6.size
    have a0 := A6.out.c 0 rfl
    clear hb6 hF6 hM6 A5 R5 O5 M5
    go_wp2_with fail
    clear a0
    refine (copyHub_any (some ⟨b0, off, none⟩) cap ts w6 hl HTT.out (HZ.out.later dChan_ok hB6)).mono ?_
    rintro e w7 ⟨⟨o, c, us0, rfl, hv7, hF7⟩, hb7⟩
    have hB7 := hB6.trans (hb7.mono hB6.size)
    have R7 := hid (R6.out.later hb7)
    have O7 := hid (O6.out.later hb7)
    have BI7 : Hid (kI.In w3.heap.size w7 bo' b) := BI6.out.below (hb7.mono (by omega))
    have T7 := hid (T6.out.later hb7)
    have M7 := hid (M6.out.later hb7)
    have h67 := hb7.size
    have hgm : g < w5.heap.size := hgm5.out
    have hu0 : us0.length = ts.length := by have := congrArg List.length hv7; simpa using this
    rw [List.length_map]
    have hj7 : j < us0.length := by omega
    have hF7' : hChan.Fresh w6.heap.size w7.heap.size w7 o c us0 := hF7.1
    obtain ⟨gg, eo, hg1, hg2, _⟩ := hF7'.at (show 0 < us0.length by omega)
    subst eo
    have F7 := hid hF7
    have HV7 := hid hv7
    obtain ⟨W8, hW8⟩ : ∃ W8, W8 = (((((w7.setCell ⟨gg, j * 5, none⟩ (.int .i64 kap)).setCell ⟨gg, j * 5 + 1, none⟩ (.bool true)).setCell ⟨gg, j * 5 + 2, none⟩ (.slice bo' b.length bc')).setCell ⟨gg, j * 5 + 3, none⟩ (.slice none 0 0)).setCell ⟨gg, j * 5 + 4, none⟩ (.slice none 0 0)) := ⟨_, rfl⟩
    have hz8 : W8.heap.size = w7.heap.size := by rw [hW8]; simp [World.setCell]
    have D8 := hid (DFr.putIn (kap := kap) (cl := true) (bc := bc') F7.out hj7 BI7.out (show w3.heap.size ≤ w6.heap.size by omega) h67)
    rw [← hW8, ← hz8] at D8
    have hb8 : Below w6.heap.size w7 W8 := by rw [hW8]; exact (((((Below.refl _ _).setCell (p := ⟨gg, j * 5, none⟩) (by dsimp only; omega) _).setCell (p := ⟨gg, j * 5 + 1, none⟩) (by dsimp only; omega) _).setCell (p := ⟨gg, j * 5 + 2, none⟩) (by dsimp only; omega) _).setCell (p := ⟨gg, j * 5 + 3, none⟩) (by dsimp only; omega) _).setCell (p := ⟨gg, j * 5 + 4, none⟩) (by dsimp only; omega) _
    have hB8 := hB7.trans (hb8.mono hB6.size)
    have R8 := hid (R7.out.below hb8 (by omega))
    have T8 : Hid (kK.Fresh w5.heap.size w6.heap.size W8 to' tc' (tellW (oft (wts (ts.map valChan))) (wokeL (r ++ s))).1) := Kind.Fresh.keepB T7.out fun z hz => hb8.block z (T7.out.lt hz).2.1
    have M8 := hid (M7.out.keep (hb8.block g (by omega)))
    obtain ⟨W9, hW9⟩ : ∃ W9, W9 = W8.alloc (.cells #[.slice (some ⟨gg, 0, none⟩) ts.length c] 28) := ⟨_, rfl⟩
    have hb9 : Below W8.heap.size W8 W9 := by rw [hW9]; exact below1 _ _
    have hB9 := hB8.trans (hb9.mono hB8.size)
    have R9 := hid (R8.out.later hb9)
    have T9 := hid (T8.out.later hb9)
    have M9 := hid (M8.out.later hb9)
    have D9 := hid (D8.out.later dChan_ok hb9)
    have h89 := hb9.size
    have hv9 : (us0.set j ((kap, true, (bo', bc', b), (none, 0, []), (none, 0, [])) : LChan)).map valChan = shutP (ts.map valChan) j := by
      rw [List.map_set, HV7.out, shutP, HEV.out]; rfl
    have hW := withOnly_any (some ⟨gg, 0, none⟩) c (us0.set j ((kap, true, (bo', bc', b), (none, 0, []), (none, 0, [])) : LChan)) g n _ W9 (by rw [List.length_set]; omega) (by rw [totChan_P, hv9]; exact Nat.le_trans (totP_shut _ _) (by rw [← totChan_P]; exact HTT.out)) D9.out M9.out (by rw [hv9]; exact hok.out)
    rw [List.length_set, hu0, hv9] at hW
    have HW := hid hW
    have HW8 := hid hW8
    have HW9 := hid hW9
    have o0 := O7.out.c 0 rfl
    have o1 := O7.out.c 1 rfl
    have o2 := O7.out.c 2 rfl
    have o3 := O7.out.c 3 rfl
    have o4 := O7.out.c 4 rfl
    have oz := O7.out.size
    obtain ⟨q0, q1, q2, q3, q4⟩ := hd_at F7.out hj7
    have z0 := hd_frozen F7.out (by omega) (j * 5)
    have z1 := hd_frozen F7.out (by omega) (j * 5 + 1)
    have z2 := hd_frozen F7.out (by omega) (j * 5 + 2)
    have z3 := hd_frozen F7.out (by omega) (j * 5 + 3)
    have z4 := hd_frozen F7.out (by omega) (j * 5 + 4)
    clear hb7 hF7 hF7' hv7 hW8 hb8 hW9 hb9 hW hv9 R6 O6 T6 M6 BI6 BF5
    go_wp2_with fail
    rw [← HW8.out, ← HW9.out]
    clear o0 o1 o2 o3 o4 oz q0 q1 q2 q3 q4 z0 z1 z2 z3 z4 HW8 HW9 F7 O7 R7 T7 M7 R8 T8 M8 D8 D9 BI7
    refine HW.out.mono ?_
    rintro e wA ⟨⟨oA, cA, usA, rfl, hvA, hFA⟩, hbA⟩
    have hBA := hB9.trans (hbA.mono hB9.size)
    have RA := hid (R9.out.later hbA)
    have TA := hid (T9.out.later hbA)
    have HVA := hid hvA
    have FA := hid hFA
    have hzA := hbA.size
    have r0 := RA.out.c 0 rfl
    have rf0 := RA.out.f 0 rfl
    have rz := RA.out.size
    clear hbA hvA hFA R9 T9 HW
    go_wp2
    refine bodyPost_ret (v := .tuple #[.agg #[.slice oA (shutP (ts.map valChan) j).length cA], .slice to' (tellW (oft (wts (ts.map valChan))) (wokeL (r ++ s))).1.length tc', .int .i64 0]) (by simp [results, Try.results7, go_sem, r0]) rfl ?_
    rw [HR.out]
    refine ⟨⟨W9.heap.size, oA, cA, usA, to', tc', by simp, HVA.out, by omega, by simpa [World.setCell] using hzA, ?_, ?_⟩, hBA.setCell (p := ⟨w.heap.size + 1, 0, none⟩) (by dsimp only; omega) _⟩
    · exact Kind.Fresh.wide (TA.out.setBelow (a := ⟨w.heap.size + 1, 0, none⟩) (by dsimp only; omega) _) (by omega) (by omega)
    · exact DFr.wide (lo := W9.heap.size) (hi := wA.heap.size) dChan_ok (DFr.keep dChan_ok FA.out fun q h1 _ _ => Below.heap_setCell wA _ _ q (by dsimp only; omega)) (by omega) (by simp [World.setCell])
end Go.Proofs.Ytdjdbcfcccbhpaa
