
/- Drawn numbers to be dealt; a number of bytes; rows held against each other. No conditions but those written. -/
import Derived.Test.YtnjnnilmelmmgaaYc
namespace Go.Proofs.Ytnjnnilmelmmgaa
open Go.RowKit

def AnsN (w : World) (e : Ending) (w' : World) : Prop :=
  (∃ o c xs m t, e = .returned (.tuple #[.slice o (xs : List Int).length c, .int .i64 m, .int .i64 t]) ∧ xs.length ≤ 101 ∧ kI.In w'.heap.size w' o xs) ∧ Below w.heap.size w w'
theorem kIin_of {lo : Nat} {w : World} {g n : Nat} (h : w.ownsRow lo 3 1 (.slice (some ⟨g, 0, none⟩) n n) n (madeCells (Value.int .i64 0).cells (n * 1)).toList) : kI.In w.heap.size w (some ⟨g, 0, none⟩) (List.replicate n (0 : Int)) := by
  have e : (madeCells (Value.int .i64 0).cells (n * 1)).toList = List.replicate (n * 1) (.int .i64 0) := toList_madeCells_one _ _
  rw [e, Nat.mul_one] at h
  refine ints_mk (owns_lt h).2 fun j hj => ?_
  simp at hj
  rw [Nat.zero_add, h.cellAt j (by omega)]
  simp [el, hj]
/-- A row of ints that lies in no block p. -/
def NI (p : Nat) (W : World) (o : Option Addr) (xs : List Int) : Prop := kI.In W.heap.size W o xs ∧ (xs = [] ∨ ∀ b off, o = some ⟨b, off, none⟩ → b ≠ p)
theorem NI.grew {p : Nat} {W W' : World} {o : Option Addr} {xs : List Int} (h : NI p W o xs) (hg : Grew p W W') : NI p W' o xs := by
  refine ⟨?_, h.2⟩
  rcases h.1 with e | ⟨b, off, e, hb, hc⟩
  · exact .inl e
  · rcases h.2 with h2 | h2
    · exact .inl h2
    · refine .inr ⟨b, off, e, Nat.lt_of_lt_of_le hb hg.size, fun j hj i hi => ?_⟩
      exact (World.cell?_of_block (a := ⟨b, off + j * kI.sz + i, none⟩) (hg.block b hb (h2 b off e))).trans (hc j hj i hi)
theorem NI.alloc {p : Nat} {W : World} {o : Option Addr} {xs : List Int} (h : NI p W o xs) (ob : Obj) : NI p (W.alloc ob) o xs := h.grew (Grew.alloc p W ob)
theorem NI.fresh {p lo hi : Nat} {W : World} {o : Option Addr} {c : Nat} {xs : List Int} (h : kI.Fresh lo hi W o c xs) (hp : p < lo) : NI p W o xs := by
  refine ⟨h.in, ?_⟩
  rcases h with h | ⟨g, e, _, ho⟩
  · exact .inl h
  · refine .inr fun b off eb => ?_
    rw [e] at eb
    simp at eb
    have := (owns_lt ho).1
    omega
set_option maxRecDepth 100000 in
set_option maxHeartbeats 16000000 in
theorem drawSplit_any (co : Option Addr) (cap : Nat) (bs : List Int) (w : World) (hl : bs.length ≤ 9223372036854775807) (hb : BytesIn w.heap.size w co bs) :
    Calls Try.prog 39 #[.slice co bs.length cap] w (AnsN w) := by
  obtain ⟨w0, hw0⟩ : ∃ w0, w0 = w.alloc (.cells #[.slice co bs.length cap, .int .i64 0, .int .u64 0] 77) := ⟨_, rfl⟩
  have hB0 : Below w.heap.size w w0 := by rw [hw0]; exact below1 _ _
  have X0 : Bx w0 w.heap.size [.slice co bs.length cap, .int .i64 ((0 : Nat) : Int), .int .u64 0] := by rw [hw0]; exact Bx.new [.slice co bs.length cap, .int .i64 0, .int .u64 0] _ rfl
  have HC0 := hid (Cur.of X0 (hb.later hB0 (Nat.le_refl _)))
  have hs0 : w.heap.size + 1 ≤ w0.heap.size := by rw [hw0]; simp
  have H0 := hid hw0
  clear hw0 X0
  go_enter Try.func39, Try.ntmps39
  go_wp2_with fail
  rw [← H0.out]
  refine (ints_any 9 (by omega) w.heap.size co cap bs 0 0 w0 hl (by omega) HC0.out).mono ?_
  rintro e w1 ⟨⟨o, c, xs, rfl, hx9, _, hF⟩, ⟨k1, sd1, hk1, hC1, hg1⟩⟩
  have HC1 := hid hC1
  have hB1 := hB0.trans (hg1.below (Nat.le_refl _) (by omega))
  have hs1 : w.heap.size + 1 ≤ w1.heap.size := by have := hg1.size; omega
  have I1 := hid (NI.fresh (p := w.heap.size) hF (by omega))
  have hx : xs.length ≤ 101 := by omega
  clear hC1 hg1 hF HC0 hB0 H0 hx9
  go_wp2_with fail
  refine (one_any 30 w.heap.size co cap bs k1 sd1 w1 hl (by omega) HC1.out).mono ?_
  rintro e w2 ⟨⟨b, rfl⟩, hD⟩
  obtain ⟨k2, sd2, hk2, hC2, hg2, hsz2⟩ := hD.grew
  have HC2 := hid hC2
  have hB2 := hB1.trans (hg2.below (Nat.le_refl _) (by omega))
  have hs2 : w.heap.size + 1 ≤ w2.heap.size := by omega
  have I2 := hid (I1.out.grew hg2)
  clear hD hC2 hg2 HC1 hB1 hsz2 I1
  cases b with
  | true =>
    obtain ⟨i0, hi, hz0, hz1, hz2⟩ := info_parts Try.info3
    go_wp2_with fail
    refine (pick_any 2 w.heap.size co cap bs k2 sd2 w2 hl (by omega) HC2.out).mono ?_
    rintro e w3 ⟨⟨y, rfl, hy0, hy1⟩, hD⟩
    obtain ⟨k3, sd3, hk3, hC3, hg3, hsz3⟩ := hD.grew
    have HC3 := hid hC3
    have hB3 := hB2.trans (hg3.below (Nat.le_refl _) (by omega))
    have hs3 : w.heap.size + 1 ≤ w3.heap.size := by omega
    clear hD hC3 hg3 HC2 hB2 hsz3
    clear I2 hx
    obtain ⟨zs, hn, hrep⟩ : ∃ zs : List Int, 100 + y = (zs.length : Int) ∧ zs = List.replicate zs.length 0 := ⟨List.replicate (100 + y).toNat 0, by simp; omega, by simp⟩
    have hzz : zs.length ≤ 101 := by omega
    have HREP := hid hrep
    clear hrep
    go_wp2_with (at_make; refine wpList_make_full _ rfl _ _ 28 rfl (w.heap.size + 1) 3 i0 (.int .i64 0) 1 Try.underlying28 hi hz0 hz1 .i64 .i64 _ _ zs.length rfl rfl rfl rfl (by rw [hz2]; omega) (by unfold maxLen; omega) hs3 ?_; intro w4 hown hgrow; have hb4 : Below w3.heap.size w3 w4 := (Below.refl _ _).grown hgrow (Nat.le_refl _) (fun k e => by cases e); have HC4 := hid (HC3.out.later hb4); have hB4 := hB3.trans (hb4.mono (by omega)); have hs4 : w.heap.size + 1 ≤ w4.heap.size := Nat.le_trans hs3 hb4.size; have I4 : Hid (NI w.heap.size w4 (some ⟨w3.heap.size, 0, none⟩) zs) := (by have h1 := kIin_of hown; rw [← HREP.out] at h1; exact ⟨h1, .inr (fun b off e => (by simp at e; omega))⟩); clear hown hgrow hb4; have hk4 : k3 ≤ 40 := (by omega); obtain ⟨k4, hkk⟩ : ∃ k4, k4 = k3 := ⟨_, rfl⟩; obtain ⟨sd4, hss⟩ : ∃ sd4, sd4 = sd3 := ⟨_, rfl⟩; rw [← hkk] at hk4 HC4; rw [← hss] at HC4; clear hkk hss HC3 hB3)
    refine (pick_any 4 w.heap.size co cap bs k4 sd4 w4 hl (by omega) HC4.out).mono ?_
    rintro e w5 ⟨⟨m, rfl, hm0, hm1⟩, hD⟩
    obtain ⟨k5, sd5, hk5, hC5, hg5, hsz5⟩ := hD.grew
    have HC5 := hid hC5
    have hB5 := hB4.trans (hg5.below (Nat.le_refl _) (by omega))
    have hs5 : w.heap.size + 1 ≤ w5.heap.size := by omega
    have I5 := hid (I4.out.grew hg5)
    clear hD hC5 hg5 HC4 hB4 hsz5 I4
    go_wp2_with fail
    refine (one_any 20 w.heap.size co cap bs k5 sd5 w5 hl (by omega) HC5.out).mono ?_
    rintro e w6 ⟨⟨b2, rfl⟩, hD⟩
    obtain ⟨k6, sd6, hk6, hC6, hg6, hsz6⟩ := hD.grew
    have HC6 := hid hC6
    have hB6 := hB5.trans (hg6.below (Nat.le_refl _) (by omega))
    have hs6 : w.heap.size + 1 ≤ w6.heap.size := by omega
    have I6 := hid (I5.out.grew hg6)
    clear hD hC6 hg6 HC5 hB5 hsz6 I5
    cases b2 with
    | true =>
      have XU := hid (Bx.new (w := w6) (p := w6.heap.size) [.int .i64 0, .int .i64 10, .int .i64 11] 3 rfl)
      have HCu := hid (HC6.out.later (below1 w6 (.cells #[.int .i64 0, .int .i64 10, .int .i64 11] 3)))
      have hBu := Below.allocS hB6 (.cells #[.int .i64 0, .int .i64 10, .int .i64 11] 3)
      have Iu := hid (I6.out.alloc (.cells #[.int .i64 0, .int .i64 10, .int .i64 11] 3))
      have hsu : w6.heap.size + 1 ≤ (w6.alloc (.cells #[.int .i64 0, .int .i64 10, .int .i64 11] 3)).heap.size := by simp
      clear HC6 hB6 I6
      go_wp2_with fail
      refine (among_some [0, 10, 11] w6.heap.size w.heap.size co cap bs k6 sd6 _ hl (by omega) HCu.out (by simp) (by simp) XU.out (by omega)).mono ?_
      rintro e w7 ⟨⟨m2, rfl⟩, hD⟩
      obtain ⟨k7, sd7, hk7, hC7, hg7, hsz7⟩ := hD.grew
      have HC7 := hid hC7
      have hB7 := hBu.trans (hg7.below (Nat.le_refl _) (by omega))
      have I7 := hid (Iu.out.grew hg7)
      have hs7 : w.heap.size + 1 ≤ w7.heap.size := by have := hg7.size; omega
      clear hD hC7 hg7 HCu hBu Iu XU hsz7
      by_cases hma : 0 < m2
      · have hma' : decide (0 < m2) = true := by simpa using hma
        go_wp2_with fail
        refine (pick_any m2 w.heap.size co cap bs k7 sd7 w7 hl (by omega) HC7.out).mono ?_
        rintro e w8 ⟨⟨t, rfl, _, _⟩, hD⟩
        obtain ⟨k8, sd8, hk8, hC8, hg8, hsz8⟩ := hD.grew
        have HC8 := hid hC8
        have hB8 := hB7.trans (hg8.below (Nat.le_refl _) (by omega))
        have hs8 : w.heap.size + 1 ≤ w8.heap.size := by omega
        have I8 := hid (I7.out.grew hg8)
        clear hD hC8 hg8 HC7 hB7 hsz8 I7
        go_wp2_with fail
        refine (one_any 20 w.heap.size co cap bs k8 sd8 w8 hl (by omega) HC8.out).mono ?_
        rintro e w9 ⟨⟨b3, rfl⟩, hD⟩
        obtain ⟨k9, sd9, hk9, hC9, hg9, hsz9⟩ := hD.grew
        have HC9 := hid hC9
        have hB9 := hB8.trans (hg9.below (Nat.le_refl _) (by omega))
        have hs9 : w.heap.size + 1 ≤ w9.heap.size := by omega
        have I9 := hid (I8.out.grew hg9)
        clear hD hC9 hg9 HC8 hB8 hsz9 I8
        cases b3 with
        | true =>
          have XU := hid (Bx.new (w := w9) (p := w9.heap.size) [.int .i64 (-1), .int .i64 m2] 3 rfl)
          have HCu := hid (HC9.out.later (below1 w9 (.cells #[.int .i64 (-1), .int .i64 m2] 3)))
          have hBu := Below.allocS hB9 (.cells #[.int .i64 (-1), .int .i64 m2] 3)
          have Iu := hid (I9.out.alloc (.cells #[.int .i64 (-1), .int .i64 m2] 3))
          have hsu : w9.heap.size + 1 ≤ (w9.alloc (.cells #[.int .i64 (-1), .int .i64 m2] 3)).heap.size := by simp
          clear HC9 hB9 I9
          go_wp2_with fail
          refine (among_some [-1, m2] w9.heap.size w.heap.size co cap bs k9 sd9 _ hl (by omega) HCu.out (by simp) (by simp) XU.out (by omega)).mono ?_
          rintro e w10 ⟨⟨t2, rfl⟩, hD⟩
          obtain ⟨k10, sd10, hk10, hC10, hg10, hsz10⟩ := hD.grew
          have hB10 := hBu.trans (hg10.below (Nat.le_refl _) (by omega))
          have I10 := hid (Iu.out.grew hg10)
          clear hD hC10 hg10 HCu hBu Iu XU hsz10
          go_wp2
          exact bodyPost_ret (v := .tuple #[.slice (some ⟨w3.heap.size, 0, none⟩) zs.length zs.length, .int .i64 m2, .int .i64 t2]) (by simp [results, Try.results39, go_sem]) rfl ⟨⟨_, _, _, _, _, rfl, hzz, I10.out.1⟩, hB10⟩
        | false =>
          go_wp2
          exact bodyPost_ret (v := .tuple #[.slice (some ⟨w3.heap.size, 0, none⟩) zs.length zs.length, .int .i64 m2, .int .i64 t]) (by simp [results, Try.results39, go_sem]) rfl ⟨⟨_, _, _, _, _, rfl, hzz, I9.out.1⟩, hB9⟩
      · have hma' : decide (0 < m2) = false := by simpa using hma
        go_wp2_with fail
        refine (one_any 20 w.heap.size co cap bs k7 sd7 w7 hl (by omega) HC7.out).mono ?_
        rintro e w8 ⟨⟨b3, rfl⟩, hD⟩
        obtain ⟨k8, sd8, hk8, hC8, hg8, hsz8⟩ := hD.grew
        have HC8 := hid hC8
        have hB8 := hB7.trans (hg8.below (Nat.le_refl _) (by omega))
        have hs8 : w.heap.size + 1 ≤ w8.heap.size := by omega
        have I8 := hid (I7.out.grew hg8)
        clear hD hC8 hg8 HC7 hB7 hsz8 I7
        cases b3 with
        | true =>
          have XU := hid (Bx.new (w := w8) (p := w8.heap.size) [.int .i64 (-1), .int .i64 m2] 3 rfl)
          have HCu := hid (HC8.out.later (below1 w8 (.cells #[.int .i64 (-1), .int .i64 m2] 3)))
          have hBu := Below.allocS hB8 (.cells #[.int .i64 (-1), .int .i64 m2] 3)
          have Iu := hid (I8.out.alloc (.cells #[.int .i64 (-1), .int .i64 m2] 3))
          have hsu : w8.heap.size + 1 ≤ (w8.alloc (.cells #[.int .i64 (-1), .int .i64 m2] 3)).heap.size := by simp
          clear HC8 hB8 I8
          go_wp2_with fail
          refine (among_some [-1, m2] w8.heap.size w.heap.size co cap bs k8 sd8 _ hl (by omega) HCu.out (by simp) (by simp) XU.out (by omega)).mono ?_
          rintro e w9 ⟨⟨t2, rfl⟩, hD⟩
          obtain ⟨k9, sd9, hk9, hC9, hg9, hsz9⟩ := hD.grew
          have hB9 := hBu.trans (hg9.below (Nat.le_refl _) (by omega))
          have I9 := hid (Iu.out.grew hg9)
          clear hD hC9 hg9 HCu hBu Iu XU hsz9
          go_wp2
          exact bodyPost_ret (v := .tuple #[.slice (some ⟨w3.heap.size, 0, none⟩) zs.length zs.length, .int .i64 m2, .int .i64 t2]) (by simp [results, Try.results39, go_sem]) rfl ⟨⟨_, _, _, _, _, rfl, hzz, I9.out.1⟩, hB9⟩
        | false =>
          go_wp2
          exact bodyPost_ret (v := .tuple #[.slice (some ⟨w3.heap.size, 0, none⟩) zs.length zs.length, .int .i64 m2, .int .i64 0]) (by simp [results, Try.results39, go_sem]) rfl ⟨⟨_, _, _, _, _, rfl, hzz, I8.out.1⟩, hB8⟩
    | false =>
      have hmm : 0 < 1 + m := by omega
      go_wp2_with fail
      refine (pick_any (1 + m) w.heap.size co cap bs k6 sd6 w6 hl (by omega) HC6.out).mono ?_
      rintro e w7 ⟨⟨t, rfl, _, _⟩, hD⟩
      obtain ⟨k7, sd7, hk7, hC7, hg7, hsz7⟩ := hD.grew
      have HC7 := hid hC7
      have hB7 := hB6.trans (hg7.below (Nat.le_refl _) (by omega))
      have hs7 : w.heap.size + 1 ≤ w7.heap.size := by omega
      have I7 := hid (I6.out.grew hg7)
      clear hD hC7 hg7 HC6 hB6 hsz7 I6
      go_wp2_with fail
      refine (one_any 20 w.heap.size co cap bs k7 sd7 w7 hl (by omega) HC7.out).mono ?_
      rintro e w8 ⟨⟨b3, rfl⟩, hD⟩
      obtain ⟨k8, sd8, hk8, hC8, hg8, hsz8⟩ := hD.grew
      have HC8 := hid hC8
      have hB8 := hB7.trans (hg8.below (Nat.le_refl _) (by omega))
      have hs8 : w.heap.size + 1 ≤ w8.heap.size := by omega
      have I8 := hid (I7.out.grew hg8)
      clear hD hC8 hg8 HC7 hB7 hsz8 I7
      cases b3 with
      | true =>
        have XU := hid (Bx.new (w := w8) (p := w8.heap.size) [.int .i64 (-1), .int .i64 (1 + m)] 3 rfl)
        have HCu := hid (HC8.out.later (below1 w8 (.cells #[.int .i64 (-1), .int .i64 (1 + m)] 3)))
        have hBu := Below.allocS hB8 (.cells #[.int .i64 (-1), .int .i64 (1 + m)] 3)
        have Iu := hid (I8.out.alloc (.cells #[.int .i64 (-1), .int .i64 (1 + m)] 3))
        have hsu : w8.heap.size + 1 ≤ (w8.alloc (.cells #[.int .i64 (-1), .int .i64 (1 + m)] 3)).heap.size := by simp
        clear HC8 hB8 I8
        go_wp2_with fail
        refine (among_some [-1, (1 + m)] w8.heap.size w.heap.size co cap bs k8 sd8 _ hl (by omega) HCu.out (by simp) (by simp) XU.out (by omega)).mono ?_
        rintro e w9 ⟨⟨t2, rfl⟩, hD⟩
        obtain ⟨k9, sd9, hk9, hC9, hg9, hsz9⟩ := hD.grew
        have hB9 := hBu.trans (hg9.below (Nat.le_refl _) (by omega))
        have I9 := hid (Iu.out.grew hg9)
        clear hD hC9 hg9 HCu hBu Iu XU hsz9
        go_wp2
        exact bodyPost_ret (v := .tuple #[.slice (some ⟨w3.heap.size, 0, none⟩) zs.length zs.length, .int .i64 (1 + m), .int .i64 t2]) (by simp [results, Try.results39, go_sem]) rfl ⟨⟨_, _, _, _, _, rfl, hzz, I9.out.1⟩, hB9⟩
      | false =>
        go_wp2
        exact bodyPost_ret (v := .tuple #[.slice (some ⟨w3.heap.size, 0, none⟩) zs.length zs.length, .int .i64 (1 + m), .int .i64 t]) (by simp [results, Try.results39, go_sem]) rfl ⟨⟨_, _, _, _, _, rfl, hzz, I8.out.1⟩, hB8⟩
  | false =>
    go_wp2_with fail
    refine (pick_any 4 w.heap.size co cap bs k2 sd2 w2 hl (by omega) HC2.out).mono ?_
    rintro e w3 ⟨⟨m, rfl, hm0, hm1⟩, hD⟩
    obtain ⟨k3, sd3, hk3, hC3, hg3, hsz3⟩ := hD.grew
    have HC3 := hid hC3
    have hB3 := hB2.trans (hg3.below (Nat.le_refl _) (by omega))
    have hs3 : w.heap.size + 1 ≤ w3.heap.size := by omega
    have I3 := hid (I2.out.grew hg3)
    clear hD hC3 hg3 HC2 hB2 hsz3 I2
    go_wp2_with fail
    refine (one_any 20 w.heap.size co cap bs k3 sd3 w3 hl (by omega) HC3.out).mono ?_
    rintro e w4 ⟨⟨b2, rfl⟩, hD⟩
    obtain ⟨k4, sd4, hk4, hC4, hg4, hsz4⟩ := hD.grew
    have HC4 := hid hC4
    have hB4 := hB3.trans (hg4.below (Nat.le_refl _) (by omega))
    have hs4 : w.heap.size + 1 ≤ w4.heap.size := by omega
    have I4 := hid (I3.out.grew hg4)
    clear hD hC4 hg4 HC3 hB3 hsz4 I3
    cases b2 with
    | true =>
      have XU := hid (Bx.new (w := w4) (p := w4.heap.size) [.int .i64 0, .int .i64 10, .int .i64 11] 3 rfl)
      have HCu := hid (HC4.out.later (below1 w4 (.cells #[.int .i64 0, .int .i64 10, .int .i64 11] 3)))
      have hBu := Below.allocS hB4 (.cells #[.int .i64 0, .int .i64 10, .int .i64 11] 3)
      have Iu := hid (I4.out.alloc (.cells #[.int .i64 0, .int .i64 10, .int .i64 11] 3))
      have hsu : w4.heap.size + 1 ≤ (w4.alloc (.cells #[.int .i64 0, .int .i64 10, .int .i64 11] 3)).heap.size := by simp
      clear HC4 hB4 I4
      go_wp2_with fail
      refine (among_some [0, 10, 11] w4.heap.size w.heap.size co cap bs k4 sd4 _ hl (by omega) HCu.out (by simp) (by simp) XU.out (by omega)).mono ?_
      rintro e w5 ⟨⟨m2, rfl⟩, hD⟩
      obtain ⟨k5, sd5, hk5, hC5, hg5, hsz5⟩ := hD.grew
      have HC5 := hid hC5
      have hB5 := hBu.trans (hg5.below (Nat.le_refl _) (by omega))
      have I5 := hid (Iu.out.grew hg5)
      have hs5 : w.heap.size + 1 ≤ w5.heap.size := by have := hg5.size; omega
      clear hD hC5 hg5 HCu hBu Iu XU hsz5
      by_cases hma : 0 < m2
      · have hma' : decide (0 < m2) = true := by simpa using hma
        go_wp2_with fail
        refine (pick_any m2 w.heap.size co cap bs k5 sd5 w5 hl (by omega) HC5.out).mono ?_
        rintro e w6 ⟨⟨t, rfl, _, _⟩, hD⟩
        obtain ⟨k6, sd6, hk6, hC6, hg6, hsz6⟩ := hD.grew
        have HC6 := hid hC6
        have hB6 := hB5.trans (hg6.below (Nat.le_refl _) (by omega))
        have hs6 : w.heap.size + 1 ≤ w6.heap.size := by omega
        have I6 := hid (I5.out.grew hg6)
        clear hD hC6 hg6 HC5 hB5 hsz6 I5
        go_wp2_with fail
        refine (one_any 20 w.heap.size co cap bs k6 sd6 w6 hl (by omega) HC6.out).mono ?_
        rintro e w7 ⟨⟨b3, rfl⟩, hD⟩
        obtain ⟨k7, sd7, hk7, hC7, hg7, hsz7⟩ := hD.grew
        have HC7 := hid hC7
        have hB7 := hB6.trans (hg7.below (Nat.le_refl _) (by omega))
        have hs7 : w.heap.size + 1 ≤ w7.heap.size := by omega
        have I7 := hid (I6.out.grew hg7)
        clear hD hC7 hg7 HC6 hB6 hsz7 I6
        cases b3 with
        | true =>
          have XU := hid (Bx.new (w := w7) (p := w7.heap.size) [.int .i64 (-1), .int .i64 m2] 3 rfl)
          have HCu := hid (HC7.out.later (below1 w7 (.cells #[.int .i64 (-1), .int .i64 m2] 3)))
          have hBu := Below.allocS hB7 (.cells #[.int .i64 (-1), .int .i64 m2] 3)
          have Iu := hid (I7.out.alloc (.cells #[.int .i64 (-1), .int .i64 m2] 3))
          have hsu : w7.heap.size + 1 ≤ (w7.alloc (.cells #[.int .i64 (-1), .int .i64 m2] 3)).heap.size := by simp
          clear HC7 hB7 I7
          go_wp2_with fail
          refine (among_some [-1, m2] w7.heap.size w.heap.size co cap bs k7 sd7 _ hl (by omega) HCu.out (by simp) (by simp) XU.out (by omega)).mono ?_
          rintro e w8 ⟨⟨t2, rfl⟩, hD⟩
          obtain ⟨k8, sd8, hk8, hC8, hg8, hsz8⟩ := hD.grew
          have hB8 := hBu.trans (hg8.below (Nat.le_refl _) (by omega))
          have I8 := hid (Iu.out.grew hg8)
          clear hD hC8 hg8 HCu hBu Iu XU hsz8
          go_wp2
          exact bodyPost_ret (v := .tuple #[.slice o xs.length c, .int .i64 m2, .int .i64 t2]) (by simp [results, Try.results39, go_sem]) rfl ⟨⟨_, _, _, _, _, rfl, hx, I8.out.1⟩, hB8⟩
        | false =>
          go_wp2
          exact bodyPost_ret (v := .tuple #[.slice o xs.length c, .int .i64 m2, .int .i64 t]) (by simp [results, Try.results39, go_sem]) rfl ⟨⟨_, _, _, _, _, rfl, hx, I7.out.1⟩, hB7⟩
      · have hma' : decide (0 < m2) = false := by simpa using hma
        go_wp2_with fail
        refine (one_any 20 w.heap.size co cap bs k5 sd5 w5 hl (by omega) HC5.out).mono ?_
        rintro e w6 ⟨⟨b3, rfl⟩, hD⟩
        obtain ⟨k6, sd6, hk6, hC6, hg6, hsz6⟩ := hD.grew
        have HC6 := hid hC6
        have hB6 := hB5.trans (hg6.below (Nat.le_refl _) (by omega))
        have hs6 : w.heap.size + 1 ≤ w6.heap.size := by omega
        have I6 := hid (I5.out.grew hg6)
        clear hD hC6 hg6 HC5 hB5 hsz6 I5
        cases b3 with
        | true =>
          have XU := hid (Bx.new (w := w6) (p := w6.heap.size) [.int .i64 (-1), .int .i64 m2] 3 rfl)
          have HCu := hid (HC6.out.later (below1 w6 (.cells #[.int .i64 (-1), .int .i64 m2] 3)))
          have hBu := Below.allocS hB6 (.cells #[.int .i64 (-1), .int .i64 m2] 3)
          have Iu := hid (I6.out.alloc (.cells #[.int .i64 (-1), .int .i64 m2] 3))
          have hsu : w6.heap.size + 1 ≤ (w6.alloc (.cells #[.int .i64 (-1), .int .i64 m2] 3)).heap.size := by simp
          clear HC6 hB6 I6
          go_wp2_with fail
          refine (among_some [-1, m2] w6.heap.size w.heap.size co cap bs k6 sd6 _ hl (by omega) HCu.out (by simp) (by simp) XU.out (by omega)).mono ?_
          rintro e w7 ⟨⟨t2, rfl⟩, hD⟩
          obtain ⟨k7, sd7, hk7, hC7, hg7, hsz7⟩ := hD.grew
          have hB7 := hBu.trans (hg7.below (Nat.le_refl _) (by omega))
          have I7 := hid (Iu.out.grew hg7)
          clear hD hC7 hg7 HCu hBu Iu XU hsz7
          go_wp2
          exact bodyPost_ret (v := .tuple #[.slice o xs.length c, .int .i64 m2, .int .i64 t2]) (by simp [results, Try.results39, go_sem]) rfl ⟨⟨_, _, _, _, _, rfl, hx, I7.out.1⟩, hB7⟩
        | false =>
          go_wp2
          exact bodyPost_ret (v := .tuple #[.slice o xs.length c, .int .i64 m2, .int .i64 0]) (by simp [results, Try.results39, go_sem]) rfl ⟨⟨_, _, _, _, _, rfl, hx, I6.out.1⟩, hB6⟩
    | false =>
      have hmm : 0 < 1 + m := by omega
      go_wp2_with fail
      refine (pick_any (1 + m) w.heap.size co cap bs k4 sd4 w4 hl (by omega) HC4.out).mono ?_
      rintro e w5 ⟨⟨t, rfl, _, _⟩, hD⟩
      obtain ⟨k5, sd5, hk5, hC5, hg5, hsz5⟩ := hD.grew
      have HC5 := hid hC5
      have hB5 := hB4.trans (hg5.below (Nat.le_refl _) (by omega))
      have hs5 : w.heap.size + 1 ≤ w5.heap.size := by omega
      have I5 := hid (I4.out.grew hg5)
      clear hD hC5 hg5 HC4 hB4 hsz5 I4
      go_wp2_with fail
      refine (one_any 20 w.heap.size co cap bs k5 sd5 w5 hl (by omega) HC5.out).mono ?_
      rintro e w6 ⟨⟨b3, rfl⟩, hD⟩
      obtain ⟨k6, sd6, hk6, hC6, hg6, hsz6⟩ := hD.grew
      have HC6 := hid hC6
      have hB6 := hB5.trans (hg6.below (Nat.le_refl _) (by omega))
      have hs6 : w.heap.size + 1 ≤ w6.heap.size := by omega
      have I6 := hid (I5.out.grew hg6)
      clear hD hC6 hg6 HC5 hB5 hsz6 I5
      cases b3 with
      | true =>
        have XU := hid (Bx.new (w := w6) (p := w6.heap.size) [.int .i64 (-1), .int .i64 (1 + m)] 3 rfl)
        have HCu := hid (HC6.out.later (below1 w6 (.cells #[.int .i64 (-1), .int .i64 (1 + m)] 3)))
        have hBu := Below.allocS hB6 (.cells #[.int .i64 (-1), .int .i64 (1 + m)] 3)
        have Iu := hid (I6.out.alloc (.cells #[.int .i64 (-1), .int .i64 (1 + m)] 3))
        have hsu : w6.heap.size + 1 ≤ (w6.alloc (.cells #[.int .i64 (-1), .int .i64 (1 + m)] 3)).heap.size := by simp
        clear HC6 hB6 I6
        go_wp2_with fail
        refine (among_some [-1, (1 + m)] w6.heap.size w.heap.size co cap bs k6 sd6 _ hl (by omega) HCu.out (by simp) (by simp) XU.out (by omega)).mono ?_
        rintro e w7 ⟨⟨t2, rfl⟩, hD⟩
        obtain ⟨k7, sd7, hk7, hC7, hg7, hsz7⟩ := hD.grew
        have hB7 := hBu.trans (hg7.below (Nat.le_refl _) (by omega))
        have I7 := hid (Iu.out.grew hg7)
        clear hD hC7 hg7 HCu hBu Iu XU hsz7
        go_wp2
        exact bodyPost_ret (v := .tuple #[.slice o xs.length c, .int .i64 (1 + m), .int .i64 t2]) (by simp [results, Try.results39, go_sem]) rfl ⟨⟨_, _, _, _, _, rfl, hx, I7.out.1⟩, hB7⟩
      | false =>
        go_wp2
        exact bodyPost_ret (v := .tuple #[.slice o xs.length c, .int .i64 (1 + m), .int .i64 t]) (by simp [results, Try.results39, go_sem]) rfl ⟨⟨_, _, _, _, _, rfl, hx, I6.out.1⟩, hB6⟩
end Go.Proofs.Ytnjnnilmelmmgaa
