
/- Good channels: both GoodChan. No conditions but those written. -/
import Derived.Test.YtdjdbcfcccbhpaaOBa
namespace Go.Proofs.Ytdjdbcfcccbhpaa.Old
open Go.RowKit

/-- The block p holds the five values. -/
def Box5 (W : World) (p : Nat) (u0 u1 u2 u3 u4 : Value) : Prop := p < W.heap.size ∧ W.cell? ⟨p, 0, none⟩ = some u0 ∧ W.cell? ⟨p, 1, none⟩ = some u1 ∧ W.cell? ⟨p, 2, none⟩ = some u2 ∧ W.cell? ⟨p, 3, none⟩ = some u3 ∧ W.cell? ⟨p, 4, none⟩ = some u4
theorem Box5.new (w : World) (u0 u1 u2 u3 u4 : Value) (t : TypeId) : Box5 (w.alloc (.cells #[u0, u1, u2, u3, u4] t)) w.heap.size u0 u1 u2 u3 u4 := ⟨by simp, by simp, by simp, by simp, by simp, by simp⟩
theorem Box5.later {W W' : World} {p : Nat} {u0 u1 u2 u3 u4 : Value} (h : Box5 W p u0 u1 u2 u3 u4) (hb : Below W.heap.size W W') : Box5 W' p u0 u1 u2 u3 u4 :=
  ⟨Nat.lt_of_lt_of_le h.1 hb.size, (hb.cell (p := ⟨p, 0, none⟩) h.1).trans h.2.1, (hb.cell (p := ⟨p, 1, none⟩) h.1).trans h.2.2.1, (hb.cell (p := ⟨p, 2, none⟩) h.1).trans h.2.2.2.1, (hb.cell (p := ⟨p, 3, none⟩) h.1).trans h.2.2.2.2.1, (hb.cell (p := ⟨p, 4, none⟩) h.1).trans h.2.2.2.2.2⟩
theorem Box5.between {W W' : World} {p lo hi : Nat} {u0 u1 u2 u3 u4 : Value} (h : Box5 W p u0 u1 u2 u3 u4) (hb : Between lo hi W W') (hp : p < lo ∨ hi ≤ p) : Box5 W' p u0 u1 u2 u3 u4 :=
  ⟨Nat.lt_of_lt_of_le h.1 hb.size, (World.cell?_of_block (a := ⟨p, 0, none⟩) (hb.block p h.1 hp)).trans h.2.1, (World.cell?_of_block (a := ⟨p, 1, none⟩) (hb.block p h.1 hp)).trans h.2.2.1, (World.cell?_of_block (a := ⟨p, 2, none⟩) (hb.block p h.1 hp)).trans h.2.2.2.1, (World.cell?_of_block (a := ⟨p, 3, none⟩) (hb.block p h.1 hp)).trans h.2.2.2.2.1, (World.cell?_of_block (a := ⟨p, 4, none⟩) (hb.block p h.1 hp)).trans h.2.2.2.2.2⟩

/-- The head of a good channel. -/
theorem goodC_kap {kap : Int} {cl : Bool} {b : List Int} {s r : List T3} (h : (decide (0 ≤ kap) && decide (kap ≤ 10)) = false) : goodC kap cl b s r = false := by simp only [goodC, h, Bool.false_and]
theorem goodC_buf {kap : Int} {cl : Bool} {b : List Int} {s r : List T3} (h : decide ((b.length : Int) ≤ kap) = false) : goodC kap cl b s r = false := by simp only [goodC, h, Bool.false_and, Bool.and_false]
theorem goodC_snd {kap : Int} {cl : Bool} {b : List Int} {s r : List T3} (h : rowB wtB s = false) : goodC kap cl b s r = false := by simp only [goodC, h, Bool.false_and, Bool.and_false]
theorem goodC_rcv {kap : Int} {cl : Bool} {b : List Int} {s r : List T3} (h : rowB rcB r = false) : goodC kap cl b s r = false := by simp only [goodC, h, Bool.false_and, Bool.and_false]
theorem goodC_tail {kap : Int} {cl : Bool} {b : List Int} {s r : List T3} (h1 : (decide (0 ≤ kap) && decide (kap ≤ 10)) = true) (h2 : decide ((b.length : Int) ≤ kap) = true) (h3 : rowB wtB s = true) (h4 : rowB rcB r = true) :
    goodC kap cl b s r = ((decide (s.length = 0) || (!cl && decide (kap ≤ (b.length : Int)))) && (decide (r.length = 0) || (decide (b.length = 0) && !cl && decide (s.length = 0)))) := by simp only [goodC, h1, h2, h3, h4, Bool.true_and]
theorem len0 {α : Type} {l : List α} (h : l.length = 0) : decide (0 < l.length) = false ∧ decide ((0 : Int) < (l.length : Int)) = false ∧ ((l.length : Int) == 0) = true := by rw [h]; decide
theorem len1 {α : Type} {l : List α} (h : ¬ l.length = 0) : 0 < l.length ∧ (0 : Int) < (l.length : Int) ∧ ((l.length : Int) == 0) = false := by
  refine ⟨by omega, by omega, ?_⟩
  rw [beq_eq_false_iff_ne]; omega

set_option maxRecDepth 10000 in
set_option maxHeartbeats 8000000 in
theorem implGood_is (kap : Int) (cl : Bool) (bo : Option Addr) (bc : Nat) (b : List Int) (so : Option Addr) (sc : Nat) (s : List T3) (ro : Option Addr) (rc : Nat) (r : List T3) (w : World) (x : Bool) (_hl : b.length ≤ 9223372036854775807) (hls : s.length ≤ 9223372036854775807) (hlr : r.length ≤ 9223372036854775807) (hzs : TimersIn w.heap.size w so s) (hzr : TimersIn w.heap.size w ro r) (hx : goodC kap cl b s r = x) :
    Calls Try.prog 39 #[.agg #[.int .i64 kap, .bool cl, .slice bo b.length bc, .slice so s.length sc, .slice ro r.length rc]] w fun e w' => e = .returned (.bool x) ∧ Below w.heap.size w w' := by
  have X0 := Box5.new w (.int .i64 kap) (.bool cl) (.slice bo b.length bc) (.slice so s.length sc) (.slice ro r.length rc) 45
  have hB0 := below1 w (.cells #[.int .i64 kap, .bool cl, .slice bo b.length bc, .slice so s.length sc, .slice ro r.length rc] 45)
  cases h1 : (decide (0 ≤ kap) && decide (kap ≤ 10))
  · have HV : Hid (x = false) := by rw [Hid, ← hx]; exact goodC_kap h1
    have H1 : Hid ((decide (0 ≤ kap) && decide (kap ≤ 10)) = false) := h1
    clear hx X0
    by_cases hk : kap < 0
    · clear h1
      go_enter Try.func39, Try.ntmps39
      go_wp2
      go_ret
      exact ⟨ret_bool HV.out.symm, hB0⟩
    · have hk' : decide (kap < 0) = false := by simpa using hk
      have hk2 : 10 < kap := by simp at h1; omega
      clear h1 hk
      go_enter Try.func39, Try.ntmps39
      go_wp2
      go_ret
      exact ⟨ret_bool HV.out.symm, hB0⟩
  cases h2 : decide ((b.length : Int) ≤ kap)
  · have HV : Hid (x = false) := by rw [Hid, ← hx]; exact goodC_buf h2
    have h2' : kap < (b.length : Int) := by simpa using h2
    have H1 : Hid ((decide (0 ≤ kap) && decide (kap ≤ 10)) = true) := h1
    have hk1 : decide (kap < 0) = false := by simp at h1 ⊢; omega
    have hk2 : decide (10 < kap) = false := by simp at h1 ⊢; omega
    clear hx X0 h1 h2
    go_enter Try.func39, Try.ntmps39
    go_wp2
    go_ret
    exact ⟨ret_bool HV.out.symm, hB0⟩
  have hbk : decide (kap < (b.length : Int)) = false := by simpa using h2
  have hk1 : decide (kap < 0) = false := by simp at h1 ⊢; omega
  have hk2 : decide (10 < kap) = false := by simp at h1 ⊢; omega
  have H1 : Hid ((decide (0 ≤ kap) && decide (kap ≤ 10)) = true) := h1
  cases h3 : rowB wtB s
  · have HV : Hid (x = false) := by rw [Hid, ← hx]; exact goodC_snd h3
    have H3 : Hid (rowB wtB s = false) := h3
    clear hx X0 h1 h2 h3
    go_enter Try.func39, Try.ntmps39
    go_wp2_with fail
    refine (goodSenders_is so sc s _ false hls (hzs.later hB0) H3.out).mono ?_
    rintro e w1 ⟨rfl, hb1⟩
    have hB1 := hB0.trans (hb1.mono (by simp))
    go_wp2
    go_ret
    exact ⟨ret_bool HV.out.symm, hB1⟩
  have H3 : Hid (rowB wtB s = true) := h3
  cases h4 : rowB rcB r
  · have HV : Hid (x = false) := by rw [Hid, ← hx]; exact goodC_rcv h4
    have H4 : Hid (rowB rcB r = false) := h4
    clear hx h1 h2 h3 h4
    go_enter Try.func39, Try.ntmps39
    go_wp2_with fail
    refine (goodSenders_is so sc s _ true hls (hzs.later hB0) H3.out).mono ?_
    rintro e w1 ⟨rfl, hb1⟩
    have hB1 := hB0.trans (hb1.mono (by simp))
    obtain ⟨_, x0, x1, x2, x3, x4⟩ := X0.later hb1
    clear hb1 X0
    go_wp2_with fail
    refine (goodReceivers_is ro rc r _ false hlr (hzr.later hB1) H4.out).mono ?_
    rintro e w2 ⟨rfl, hb2⟩
    have hB2 := hB1.trans (hb2.mono hB1.size)
    go_wp2
    go_ret
    exact ⟨ret_bool HV.out.symm, hB2⟩
  have H4 : Hid (rowB rcB r = true) := h4
  have HX : Hid (((decide (s.length = 0) || (!cl && decide (kap ≤ (b.length : Int)))) && (decide (r.length = 0) || (decide (b.length = 0) && !cl && decide (s.length = 0)))) = x) := by rw [Hid, ← goodC_tail h1 h2 h3 h4]; exact hx
  clear hx h1 h2 h3 h4
  go_enter Try.func39, Try.ntmps39
  go_wp2_with fail
  refine (goodSenders_is so sc s _ true hls (hzs.later hB0) H3.out).mono ?_
  rintro e w1 ⟨rfl, hb1⟩
  have hB1 := hB0.trans (hb1.mono (by simp))
  have X1 := X0.later hb1
  obtain ⟨_, x0, x1, x2, x3, x4⟩ := id X1
  clear hb1 X0
  go_wp2_with fail
  refine (goodReceivers_is ro rc r _ true hlr (hzr.later hB1) H4.out).mono ?_
  rintro e w2 ⟨rfl, hb2⟩
  have hB2 := hB1.trans (hb2.mono hB1.size)
  obtain ⟨_, y0, y1, y2, y3, y4⟩ := X1.later hb2
  clear hb2 x0 x1 x2 x3 x4 X1
  cases cl
  · -- closed false
    by_cases hs : s.length = 0
    · obtain ⟨zs, ps, qs⟩ := len0 hs
      by_cases hr : r.length = 0
      · obtain ⟨zr, pr, qr⟩ := len0 hr
        have HV : Hid (x = true) := by rw [Hid, ← HX.out, decide_eq_true (p := s.length = 0) hs, decide_eq_true (p := r.length = 0) hr]; rfl
        clear hs hr HX
        go_wp2
        go_ret
        exact ⟨ret_bool HV.out.symm, hB2⟩
      · obtain ⟨zr, pr, qr⟩ := len1 hr
        by_cases hb : b.length = 0
        · obtain ⟨zb, pb, qb⟩ := len0 hb
          have HV : Hid (x = true) := by rw [Hid, ← HX.out, decide_eq_true (p := s.length = 0) hs, decide_eq_false (p := r.length = 0) hr, decide_eq_true (p := b.length = 0) hb]; rfl
          clear hs hr hb HX
          go_wp2
          go_ret
          exact ⟨ret_bool HV.out.symm, hB2⟩
        · obtain ⟨zb, pb, qb⟩ := len1 hb
          have HV : Hid (x = false) := by rw [Hid, ← HX.out, decide_eq_true (p := s.length = 0) hs, decide_eq_false (p := r.length = 0) hr, decide_eq_false (p := b.length = 0) hb]; rfl
          clear hs hr hb HX
          go_wp2
          go_ret
          exact ⟨ret_bool HV.out.symm, hB2⟩
    · obtain ⟨zs, ps, qs⟩ := len1 hs
      by_cases hk : (b.length : Int) < kap
      · have hk' : decide ((b.length : Int) < kap) = true := by simpa using hk
        have HV : Hid (x = false) := by rw [Hid, ← HX.out, decide_eq_false (p := s.length = 0) hs, decide_eq_false (p := kap ≤ (b.length : Int)) (by omega)]; rfl
        clear hs hk HX
        go_wp2
        go_ret
        exact ⟨ret_bool HV.out.symm, hB2⟩
      · have hk' : decide ((b.length : Int) < kap) = false := by simpa using hk
        by_cases hr : r.length = 0
        · obtain ⟨zr, pr, qr⟩ := len0 hr
          have HV : Hid (x = true) := by rw [Hid, ← HX.out, decide_eq_false (p := s.length = 0) hs, decide_eq_true (p := kap ≤ (b.length : Int)) (by omega), decide_eq_true (p := r.length = 0) hr]; rfl
          clear hs hk hr HX
          go_wp2
          go_ret
          exact ⟨ret_bool HV.out.symm, hB2⟩
        · obtain ⟨zr, pr, qr⟩ := len1 hr
          by_cases hb : b.length = 0
          · obtain ⟨zb, pb, qb⟩ := len0 hb
            have HV : Hid (x = false) := by rw [Hid, ← HX.out, decide_eq_false (p := s.length = 0) hs, decide_eq_true (p := kap ≤ (b.length : Int)) (by omega), decide_eq_false (p := r.length = 0) hr, decide_eq_true (p := b.length = 0) hb]; rfl
            clear hs hk hr hb HX
            go_wp2
            go_ret
            exact ⟨ret_bool HV.out.symm, hB2⟩
          · obtain ⟨zb, pb, qb⟩ := len1 hb
            have HV : Hid (x = false) := by rw [Hid, ← HX.out, decide_eq_false (p := s.length = 0) hs, decide_eq_true (p := kap ≤ (b.length : Int)) (by omega), decide_eq_false (p := r.length = 0) hr, decide_eq_false (p := b.length = 0) hb]; rfl
            clear hs hk hr hb HX
            go_wp2
            go_ret
            exact ⟨ret_bool HV.out.symm, hB2⟩
  · -- closed true
    by_cases hs : s.length = 0
    · obtain ⟨zs, ps, qs⟩ := len0 hs
      by_cases hr : r.length = 0
      · obtain ⟨zr, pr, qr⟩ := len0 hr
        have HV : Hid (x = true) := by rw [Hid, ← HX.out, decide_eq_true (p := s.length = 0) hs, decide_eq_true (p := r.length = 0) hr]; rfl
        clear hs hr HX
        go_wp2
        go_ret
        exact ⟨ret_bool HV.out.symm, hB2⟩
      · obtain ⟨zr, pr, qr⟩ := len1 hr
        by_cases hb : b.length = 0
        · obtain ⟨zb, pb, qb⟩ := len0 hb
          have HV : Hid (x = false) := by rw [Hid, ← HX.out, decide_eq_true (p := s.length = 0) hs, decide_eq_false (p := r.length = 0) hr, decide_eq_true (p := b.length = 0) hb]; rfl
          clear hs hr hb HX
          go_wp2
          go_ret
          exact ⟨ret_bool HV.out.symm, hB2⟩
        · obtain ⟨zb, pb, qb⟩ := len1 hb
          have HV : Hid (x = false) := by rw [Hid, ← HX.out, decide_eq_true (p := s.length = 0) hs, decide_eq_false (p := r.length = 0) hr, decide_eq_false (p := b.length = 0) hb]; rfl
          clear hs hr hb HX
          go_wp2
          go_ret
          exact ⟨ret_bool HV.out.symm, hB2⟩
    · obtain ⟨zs, ps, qs⟩ := len1 hs
      by_cases hk : (b.length : Int) < kap
      · have hk' : decide ((b.length : Int) < kap) = true := by simpa using hk
        have HV : Hid (x = false) := by rw [Hid, ← HX.out, decide_eq_false (p := s.length = 0) hs, decide_eq_false (p := kap ≤ (b.length : Int)) (by omega)]; rfl
        clear hs hk HX
        go_wp2
        go_ret
        exact ⟨ret_bool HV.out.symm, hB2⟩
      · have hk' : decide ((b.length : Int) < kap) = false := by simpa using hk
        have HV : Hid (x = false) := by rw [Hid, ← HX.out, decide_eq_false (p := s.length = 0) hs, decide_eq_true (p := kap ≤ (b.length : Int)) (by omega)]; rfl
        clear hs hk HX
        go_wp2
        go_ret
        exact ⟨ret_bool HV.out.symm, hB2⟩

set_option maxRecDepth 10000 in
set_option maxHeartbeats 8000000 in
theorem specGood_is (kap : Int) (cl : Bool) (bo : Option Addr) (bc : Nat) (b : List Int) (so : Option Addr) (sc : Nat) (s : List T3) (ro : Option Addr) (rc : Nat) (r : List T3) (w : World) (x : Bool) (_hl : b.length ≤ 9223372036854775807) (hls : s.length ≤ 9223372036854775807) (hlr : r.length ≤ 9223372036854775807) (hzs : TimersIn w.heap.size w so s) (hzr : TimersIn w.heap.size w ro r) (hx : goodC kap cl b s r = x) :
    Calls Try.prog 33 #[.agg #[.int .i64 kap, .bool cl, .slice bo b.length bc, .slice so s.length sc, .slice ro r.length rc]] w fun e w' => e = .returned (.bool x) ∧ Below w.heap.size w w' := by
  have X0 := Box5.new w (.int .i64 kap) (.bool cl) (.slice bo b.length bc) (.slice so s.length sc) (.slice ro r.length rc) 45
  have hB0 := below1 w (.cells #[.int .i64 kap, .bool cl, .slice bo b.length bc, .slice so s.length sc, .slice ro r.length rc] 45)
  cases h1 : (decide (0 ≤ kap) && decide (kap ≤ 10))
  · have HV : Hid (x = false) := by rw [Hid, ← hx]; exact goodC_kap h1
    have H1 : Hid ((decide (0 ≤ kap) && decide (kap ≤ 10)) = false) := h1
    clear hx X0
    clear h1
    go_enter Try.func33, Try.ntmps33
    go_wp2_with fail
    refine (l1In_is kap 0 10 _ false H1.out).mono ?_
    rintro e w1 ⟨rfl, rfl⟩
    go_wp2
    go_ret
    exact ⟨ret_bool HV.out.symm, hB0⟩
  cases h2 : decide ((b.length : Int) ≤ kap)
  · have HV : Hid (x = false) := by rw [Hid, ← hx]; exact goodC_buf h2
    have h2' : kap < (b.length : Int) := by simpa using h2
    have H1 : Hid ((decide (0 ≤ kap) && decide (kap ≤ 10)) = true) := h1
    clear hx X0 h1 h2
    go_enter Try.func33, Try.ntmps33
    go_wp2_with fail
    refine (l1In_is kap 0 10 _ true H1.out).mono ?_
    rintro e w1 ⟨rfl, rfl⟩
    go_wp2
    go_ret
    exact ⟨ret_bool HV.out.symm, hB0⟩
  have hbk : decide (kap < (b.length : Int)) = false := by simpa using h2
  have H1 : Hid ((decide (0 ≤ kap) && decide (kap ≤ 10)) = true) := h1
  cases h3 : rowB wtB s
  · have HV : Hid (x = false) := by rw [Hid, ← hx]; exact goodC_snd h3
    have H3 : Hid (rowB wtB s = false) := h3
    clear hx X0 h1 h2 h3
    go_enter Try.func33, Try.ntmps33
    go_wp2_with fail
    refine (l1In_is kap 0 10 _ true H1.out).mono ?_
    rintro e w1 ⟨rfl, rfl⟩
    go_wp2_with fail
    refine (l3Senders_is so sc s _ false hls (hzs.later hB0) H3.out).mono ?_
    rintro e w1 ⟨rfl, hb1⟩
    have hB1 := hB0.trans (hb1.mono (by simp))
    go_wp2
    go_ret
    exact ⟨ret_bool HV.out.symm, hB1⟩
  have H3 : Hid (rowB wtB s = true) := h3
  cases h4 : rowB rcB r
  · have HV : Hid (x = false) := by rw [Hid, ← hx]; exact goodC_rcv h4
    have H4 : Hid (rowB rcB r = false) := h4
    clear hx h1 h2 h3 h4
    go_enter Try.func33, Try.ntmps33
    go_wp2_with fail
    refine (l1In_is kap 0 10 _ true H1.out).mono ?_
    rintro e w1 ⟨rfl, rfl⟩
    go_wp2_with fail
    refine (l3Senders_is so sc s _ true hls (hzs.later hB0) H3.out).mono ?_
    rintro e w1 ⟨rfl, hb1⟩
    have hB1 := hB0.trans (hb1.mono (by simp))
    obtain ⟨_, x0, x1, x2, x3, x4⟩ := X0.later hb1
    clear hb1 X0
    go_wp2_with fail
    refine (l3Receivers_is ro rc r _ false hlr (hzr.later hB1) H4.out).mono ?_
    rintro e w2 ⟨rfl, hb2⟩
    have hB2 := hB1.trans (hb2.mono hB1.size)
    go_wp2
    go_ret
    exact ⟨ret_bool HV.out.symm, hB2⟩
  have H4 : Hid (rowB rcB r = true) := h4
  have HX : Hid (((decide (s.length = 0) || (!cl && decide (kap ≤ (b.length : Int)))) && (decide (r.length = 0) || (decide (b.length = 0) && !cl && decide (s.length = 0)))) = x) := by rw [Hid, ← goodC_tail h1 h2 h3 h4]; exact hx
  clear hx h1 h2 h3 h4
  go_enter Try.func33, Try.ntmps33
  go_wp2_with fail
  refine (l1In_is kap 0 10 _ true H1.out).mono ?_
  rintro e w1 ⟨rfl, rfl⟩
  go_wp2_with fail
  refine (l3Senders_is so sc s _ true hls (hzs.later hB0) H3.out).mono ?_
  rintro e w1 ⟨rfl, hb1⟩
  have hB1 := hB0.trans (hb1.mono (by simp))
  have X1 := X0.later hb1
  obtain ⟨_, x0, x1, x2, x3, x4⟩ := id X1
  clear hb1 X0
  go_wp2_with fail
  refine (l3Receivers_is ro rc r _ true hlr (hzr.later hB1) H4.out).mono ?_
  rintro e w2 ⟨rfl, hb2⟩
  have hB2 := hB1.trans (hb2.mono hB1.size)
  obtain ⟨_, y0, y1, y2, y3, y4⟩ := X1.later hb2
  clear hb2 x0 x1 x2 x3 x4 X1
  cases cl
  · -- closed false
    by_cases hs : s.length = 0
    · obtain ⟨zs, ps, qs⟩ := len0 hs
      by_cases hr : r.length = 0
      · obtain ⟨zr, pr, qr⟩ := len0 hr
        have HV : Hid (x = true) := by rw [Hid, ← HX.out, decide_eq_true (p := s.length = 0) hs, decide_eq_true (p := r.length = 0) hr]; rfl
        clear hs hr HX
        go_wp2
        go_ret
        exact ⟨ret_bool HV.out.symm, hB2⟩
      · obtain ⟨zr, pr, qr⟩ := len1 hr
        by_cases hb : b.length = 0
        · obtain ⟨zb, pb, qb⟩ := len0 hb
          have HV : Hid (x = true) := by rw [Hid, ← HX.out, decide_eq_true (p := s.length = 0) hs, decide_eq_false (p := r.length = 0) hr, decide_eq_true (p := b.length = 0) hb]; rfl
          clear hs hr hb HX
          go_wp2
          go_ret
          exact ⟨ret_bool HV.out.symm, hB2⟩
        · obtain ⟨zb, pb, qb⟩ := len1 hb
          have HV : Hid (x = false) := by rw [Hid, ← HX.out, decide_eq_true (p := s.length = 0) hs, decide_eq_false (p := r.length = 0) hr, decide_eq_false (p := b.length = 0) hb]; rfl
          clear hs hr hb HX
          go_wp2
          go_ret
          exact ⟨ret_bool HV.out.symm, hB2⟩
    · obtain ⟨zs, ps, qs⟩ := len1 hs
      by_cases hk : (b.length : Int) < kap
      · have hk' : decide ((b.length : Int) < kap) = true := by simpa using hk
        have HV : Hid (x = false) := by rw [Hid, ← HX.out, decide_eq_false (p := s.length = 0) hs, decide_eq_false (p := kap ≤ (b.length : Int)) (by omega)]; rfl
        clear hs hk HX
        go_wp2
        go_ret
        exact ⟨ret_bool HV.out.symm, hB2⟩
      · have hk' : decide ((b.length : Int) < kap) = false := by simpa using hk
        by_cases hr : r.length = 0
        · obtain ⟨zr, pr, qr⟩ := len0 hr
          have HV : Hid (x = true) := by rw [Hid, ← HX.out, decide_eq_false (p := s.length = 0) hs, decide_eq_true (p := kap ≤ (b.length : Int)) (by omega), decide_eq_true (p := r.length = 0) hr]; rfl
          clear hs hk hr HX
          go_wp2
          go_ret
          exact ⟨ret_bool HV.out.symm, hB2⟩
        · obtain ⟨zr, pr, qr⟩ := len1 hr
          by_cases hb : b.length = 0
          · obtain ⟨zb, pb, qb⟩ := len0 hb
            have HV : Hid (x = false) := by rw [Hid, ← HX.out, decide_eq_false (p := s.length = 0) hs, decide_eq_true (p := kap ≤ (b.length : Int)) (by omega), decide_eq_false (p := r.length = 0) hr, decide_eq_true (p := b.length = 0) hb]; rfl
            clear hs hk hr hb HX
            go_wp2
            go_ret
            exact ⟨ret_bool HV.out.symm, hB2⟩
          · obtain ⟨zb, pb, qb⟩ := len1 hb
            have HV : Hid (x = false) := by rw [Hid, ← HX.out, decide_eq_false (p := s.length = 0) hs, decide_eq_true (p := kap ≤ (b.length : Int)) (by omega), decide_eq_false (p := r.length = 0) hr, decide_eq_false (p := b.length = 0) hb]; rfl
            clear hs hk hr hb HX
            go_wp2
            go_ret
            exact ⟨ret_bool HV.out.symm, hB2⟩
  · -- closed true
    by_cases hs : s.length = 0
    · obtain ⟨zs, ps, qs⟩ := len0 hs
      by_cases hr : r.length = 0
      · obtain ⟨zr, pr, qr⟩ := len0 hr
        have HV : Hid (x = true) := by rw [Hid, ← HX.out, decide_eq_true (p := s.length = 0) hs, decide_eq_true (p := r.length = 0) hr]; rfl
        clear hs hr HX
        go_wp2
        go_ret
        exact ⟨ret_bool HV.out.symm, hB2⟩
      · obtain ⟨zr, pr, qr⟩ := len1 hr
        by_cases hb : b.length = 0
        · obtain ⟨zb, pb, qb⟩ := len0 hb
          have HV : Hid (x = false) := by rw [Hid, ← HX.out, decide_eq_true (p := s.length = 0) hs, decide_eq_false (p := r.length = 0) hr, decide_eq_true (p := b.length = 0) hb]; rfl
          clear hs hr hb HX
          go_wp2
          go_ret
          exact ⟨ret_bool HV.out.symm, hB2⟩
        · obtain ⟨zb, pb, qb⟩ := len1 hb
          have HV : Hid (x = false) := by rw [Hid, ← HX.out, decide_eq_true (p := s.length = 0) hs, decide_eq_false (p := r.length = 0) hr, decide_eq_false (p := b.length = 0) hb]; rfl
          clear hs hr hb HX
          go_wp2
          go_ret
          exact ⟨ret_bool HV.out.symm, hB2⟩
    · obtain ⟨zs, ps, qs⟩ := len1 hs
      by_cases hk : (b.length : Int) < kap
      · have hk' : decide ((b.length : Int) < kap) = true := by simpa using hk
        have HV : Hid (x = false) := by rw [Hid, ← HX.out, decide_eq_false (p := s.length = 0) hs, decide_eq_false (p := kap ≤ (b.length : Int)) (by omega)]; rfl
        clear hs hk HX
        go_wp2
        go_ret
        exact ⟨ret_bool HV.out.symm, hB2⟩
      · have hk' : decide ((b.length : Int) < kap) = false := by simpa using hk
        have HV : Hid (x = false) := by rw [Hid, ← HX.out, decide_eq_false (p := s.length = 0) hs, decide_eq_true (p := kap ≤ (b.length : Int)) (by omega)]; rfl
        clear hs hk HX
        go_wp2
        go_ret
        exact ⟨ret_bool HV.out.symm, hB2⟩
end Go.Proofs.Ytdjdbcfcccbhpaa.Old
